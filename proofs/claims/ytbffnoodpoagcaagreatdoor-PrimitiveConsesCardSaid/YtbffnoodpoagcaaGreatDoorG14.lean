import Derived.Test.YtbffnoodpoagcaaGreatDoorAl
import Derived.Test.YtbffnoodpoagcaaGreatDoorG13
import Derived.StillTailTactics
namespace Go.Proofs.YtbffnoodpoagcaaGreatDoor
open Go Go.RowKit
set_option linter.unusedVariables false
abbrev row (a0 a1 a2 a3 a4 a5 a6 : Value) : Array Value := #[a0, a1, a2, a3, a4, a5, a6]
structure Three (w W : World) (x y : Array Value) : Prop where
 b0 : W.heap[w.heap.size]? = some (.cells x 27 (0, 0))
 b1 : W.heap[w.heap.size + 1]? = some (.cells y 27 (0, 0))
 b2 : ∃ z : Array Value, z.size = 7 ∧ W.heap[w.heap.size + 1 + 1]? = some (.cells z 27 (0, 0))
 bel : Below w.heap.size w W
 size : w.heap.size + 3 ≤ W.heap.size
theorem Three.new (w : World) (x y z : Array Value) (hz : z.size = 7) : Three w (((w.alloc (.cells x 27)).alloc (.cells y 27)).alloc (.cells z 27)) x y := by
 refine ⟨?_, ?_, ⟨z, hz, heap_new_at (by simp)⟩, Below.alloc (Below.alloc (Below.alloc (Below.refl _ _) (Nat.le_refl _) _) (by simp) _) (by simp; omega) _, by simp⟩
 · rw [Below.heap_alloc _ _ _ (by simp; omega)]; exact heap_alloc2_old w _ _
 · rw [Below.heap_alloc _ _ _ (by simp)]; exact heap_alloc2_new w _ _
theorem Three.below {w W W' : World} {x y : Array Value} (h : Three w W x y) (hb : Below W.heap.size W W') : Three w W' x y := by
 have := h.size
 obtain ⟨z, hz, h2⟩ := h.b2
 exact ⟨(hb.block _ (by omega)).trans h.b0, (hb.block _ (by omega)).trans h.b1, ⟨z, hz, (hb.block _ (by omega)).trans h2⟩, h.bel.trans (hb.mono (by omega)), Nat.le_trans h.size hb.size⟩
theorem Three.set {w W : World} {x y : Array Value} (h : Three w W x y) (hx : x.size = 7) (hy : y.size = 7) (a0 a1 a2 a3 a4 a5 a6 b0 b1 b2 b3 b4 b5 b6 : Value) :
 Three w (((((((((((((((W.setCell ⟨w.heap.size, 0, none⟩ a0).setCell ⟨w.heap.size, 1, none⟩ a1).setCell ⟨w.heap.size, 2, none⟩ a2).setCell ⟨w.heap.size, 3, none⟩ a3).setCell ⟨w.heap.size, 4, none⟩ a4).setCell ⟨w.heap.size, 5, none⟩ a5).setCell ⟨w.heap.size, 6, none⟩ a6).setCell
  ⟨w.heap.size + 1, 0, none⟩ b0).setCell ⟨w.heap.size + 1, 1, none⟩ b1).setCell ⟨w.heap.size + 1, 2, none⟩ b2).setCell ⟨w.heap.size + 1, 3, none⟩ b3).setCell ⟨w.heap.size + 1, 4, none⟩ b4).setCell ⟨w.heap.size + 1, 5, none⟩ b5).setCell ⟨w.heap.size + 1, 6, none⟩ b6)) #[a0, a1, a2, a3, a4, a5, a6] #[b0, b1, b2, b3, b4, b5, b6] := by
 rw [setRow7 h.b0 hx]
 have h1 : (W.setRow w.heap.size #[a0, a1, a2, a3, a4, a5, a6]).heap[w.heap.size + 1]? = _ := (setRow_other _ _ _ _ (by omega)).trans h.b1
 rw [setRow7 h1 hy]
 obtain ⟨z, hz, h2⟩ := h.b2
 refine ⟨?_, setRow_heap _ _ _ _ _ _ h1, ⟨z, hz, ?_⟩, below_setRowO (below_setRowO h.bel (Nat.le_refl _) _) (by omega) _, by rw [size_setRow, size_setRow]; exact h.size⟩
 · rw [setRow_other _ _ _ _ (by omega)]; exact setRow_heap _ _ _ _ _ _ h.b0
 · rw [setRow_other _ _ _ _ (by omega), setRow_other _ _ _ _ (by omega)]; exact h2
theorem row7z {w : World} {g : Nat} {t : TypeId} {z : Array Value} (hz : z.size = 7) (h : w.heap[g]? = some (.cells z t (0, 0))) :
 ∃ a0 a1 a2 a3 a4 a5 a6, (w.cell? ⟨g, 0, none⟩ = some a0 ∧ w.cell? ⟨g, 1, none⟩ = some a1 ∧ w.cell? ⟨g, 2, none⟩ = some a2 ∧ w.cell? ⟨g, 3, none⟩ = some a3 ∧ w.cell? ⟨g, 4, none⟩ = some a4 ∧ w.cell? ⟨g, 5, none⟩ = some a5 ∧ w.cell? ⟨g, 6, none⟩ = some a6) ∧
  (∀ j, w.frozen? ⟨g, j, none⟩ = false) := by
 obtain ⟨z⟩ := z
 match z, hz with
 | [a0, a1, a2, a3, a4, a5, a6], _ => exact ⟨a0, a1, a2, a3, a4, a5, a6, row7 h⟩
theorem Three.ret {w W : World} {x y : Array Value} (T : Three w W x y) (q : Rat) {fn : Func} {r : Tmp} {tmps : Array Value} (h : fn.results = #[.cell r 27]) (hr : tmps.getD r undef = .pointer (some ⟨w.heap.size + 1 + 1, 0, none⟩)) :
 bodyPost Tryz.prog fn (RetN w q) Exit.ret ⟨tmps, []⟩ (((((((W.setCell ⟨w.heap.size + 1 + 1, 0, none⟩ (.int .i64 1)).setCell ⟨w.heap.size + 1 + 1, 1, none⟩ (.string (nt q))).setCell ⟨w.heap.size + 1 + 1, 2, none⟩ (.string (dt q))).setCell ⟨w.heap.size + 1 + 1, 3, none⟩ (.string ⟨#[]⟩)).setCell ⟨w.heap.size + 1 + 1, 4, none⟩ (.string ⟨#[]⟩)).setCell ⟨w.heap.size + 1 + 1, 5, none⟩ (.string ⟨#[]⟩)).setCell ⟨w.heap.size + 1 + 1, 6, none⟩ (.slice none 0 0)) := by
 obtain ⟨z, hz, h2⟩ := T.b2
 rw [setRow7 h2 hz]
 exact retN h hr (setRow_heap _ _ _ _ _ _ h2) rfl (below_setRowO T.bel (by omega) _)

set_option maxHeartbeats 8000000 in
set_option maxRecDepth 100000 in
theorem productP (d : Nat) (hd : d ≤ 1000) (a a' : Ob) (p p' : Value) (w : World) (S : Nat → Prop) (hp : Pair w S a p) (hp' : Pair w S a' p') (hb : Bd d a.fix) (hb' : Bd d a'.fix) (ht : Tab w) :
 Calls Tryz.prog 133 #[vO a p, vO a' p'] w (RetN w (a.fix * a'.fix)) := by
 have HT := qh9 ht
 have A1 : Hid (∀ wd, Tab wd → Calls Tryz.prog 164 #[vO a p] wd (RetN wd a.fix)) := fun wd h => asNumP a p wd (fun q e => by subst e; exact hp) h
 have A2 : Hid (∀ wd, Tab wd → Calls Tryz.prog 164 #[vO a' p'] wd (RetN wd a'.fix)) := fun wd h => asNumP a' p' wd (fun q e => by subst e; exact hp') h
 clear ht hp hp'
 generalize a.fix = x at A1 hb ⊢
 generalize a'.fix = y at A2 hb' ⊢
 obtain ⟨x0, x1, x2, x3, x4, x5, e⟩ := cells7 a p
 obtain ⟨y0, y1, y2, y3, y4, y5, e'⟩ := cells7 a' p'
 unfold vO at A1 A2
 rw [e] at A1
 rw [e'] at A2
 unfold vO
 rw [e, e']
 clear e e'
 go_enter Tryz.func133, Tryz.ntmps133
 go_wp2_with fail
 have T0 := Three.new w #[x0, x1, x2, x3, x4, x5, p] #[y0, y1, y2, y3, y4, y5, p'] #[.int .i64 0, .string ⟨#[]⟩, .string ⟨#[]⟩, .string ⟨#[]⟩, .string ⟨#[]⟩, .string ⟨#[]⟩, .slice none 0 0] rfl
 generalize ((w.alloc (.cells #[x0, x1, x2, x3, x4, x5, p] 27)).alloc (.cells #[y0, y1, y2, y3, y4, y5, p'] 27)).alloc (.cells #[.int .i64 0, .string ⟨#[]⟩, .string ⟨#[]⟩, .string ⟨#[]⟩, .string ⟨#[]⟩, .string ⟨#[]⟩, .slice none 0 0] 27) = W at T0 ⊢
 go_upto_region 1 with fail
 go_cut [4] (fun s4 wx => s4 = .pointer (some ⟨w.heap.size + 1 + 1, 0, none⟩) ∧ Hid (Three w wx #[.int .i64 1, .string (nt x), .string (dt x), .string ⟨#[]⟩, .string ⟨#[]⟩, .string ⟨#[]⟩, .slice none 0 0] #[.int .i64 1, .string (nt y), .string (dt y), .string ⟨#[]⟩, .string ⟨#[]⟩, .string ⟨#[]⟩, .slice none 0 0]))
 case first =>
  have hB0 : Below W.heap.size W W.drew := (Below.refl _ _).drew
  obtain ⟨⟨c0, c1, c2, c3, c4, c5, c6⟩, f0⟩ := row7 T0.b0
  obtain ⟨⟨d0, d1, d2, d3, d4, d5, d6⟩, f1⟩ := row7 T0.b1
  have HB : Hid (∀ W', Below W.heap.size W W' → Tab W') := fun W' h => HT.out.below (T0.below h).bel
  go_region_with (first
   | (go_at_call_of 164 (Value.agg #[x0, x1, x2, x3, x4, x5, p]); refine (A1.out _ (HB.out _ ‹Below W.heap.size W _›)).mono ?_; rintro e w3 ⟨rfl, hb3⟩; have hB3 := chain2 ‹Below W.heap.size W _› hb3 (Nat.le_refl _); obtain ⟨⟨c0, c1, c2, c3, c4, c5, c6⟩, f0⟩ := row7 (T0.below hB3).b0; obtain ⟨⟨d0, d1, d2, d3, d4, d5, d6⟩, f1⟩ := row7 (T0.below hB3).b1; unfold vQ)
   | (go_at_call_of 164 (Value.agg #[y0, y1, y2, y3, y4, y5, p']); refine (A2.out _ (HB.out _ ‹Below W.heap.size W _›)).mono ?_; rintro e w4 ⟨rfl, hb4⟩; have hB4 := chain2 ‹Below W.heap.size W _› hb4 (Nat.le_refl _); obtain ⟨⟨c0, c1, c2, c3, c4, c5, c6⟩, f0⟩ := row7 (T0.below hB4).b0; obtain ⟨⟨d0, d1, d2, d3, d4, d5, d6⟩, f1⟩ := row7 (T0.below hB4).b1; unfold vQ))
  all_goals (go_wp2_with fail; go_meet; exact ⟨rfl, Three.set (T0.below ‹Below W.heap.size W _›) rfl rfl _ _ _ _ _ _ _ _ _ _ _ _ _ _⟩)
 case rest =>
  obtain ⟨rfl, T⟩ := hcut
  have b1 := bd_nt hb
  have b2 := bd_dt hb
  have b3 := bd_nt hb'
  have b4 := bd_dt hb'
  have hv : Hid (quo (LA (BA (text (val (LA (nt x)) * val (LA (nt y)))))) (LA (BA (text (val (LA (dt x)) * val (LA (dt y)))))) = x * y) := by
   show _ = _
   rw [val_nt, val_dt, val_nt, val_dt, quo_text, q_mul]
  have s1 : (BA (text (val (LA (nt x)) * val (LA (nt y))))).size ≤ 3000 := by
   rw [val_nt, val_nt, BA_size]
   refine Nat.le_trans (text_length (k := d + d) ?_) (by omega)
   rw [Int.natAbs_mul]
   exact lt_pow_mul hb.1 hb'.1
  have s2 : (BA (text (val (LA (dt x)) * val (LA (dt y))))).size ≤ 3000 := by
   rw [val_dt, val_dt, BA_size]
   refine Nat.le_trans (text_length (k := d + d) ?_) (by omega)
   rw [Int.natAbs_mul]
   exact lt_pow_mul hb.2 hb'.2
  have RN : Hid (∀ W, Calls Tryz.prog 165 #[.string (BA (text (val (LA (nt x)) * val (LA (nt y))))), .string (BA (text (val (LA (dt x)) * val (LA (dt y)))))] W (RetN W (x * y))) := fun W => by
   rw [← hv.out]; exact ratN _ _ _ (by omega) (by omega)
  clear hb hb' A1 A2 T0 hv s1 s2
  generalize nt x = nx at b1 T RN
  generalize dt x = dx at b2 T RN
  generalize nt y = ny at b3 T RN
  generalize dt y = dy at b4 T RN
  obtain ⟨⟨_, c1, c2, _, _, _, _⟩, _⟩ := row7 T.out.b0
  obtain ⟨⟨_, d1, d2, _, _, _, _⟩, _⟩ := row7 T.out.b1
  have hB0 : Below wc.heap.size wc wc.drew := (Below.refl _ _).drew
  have n1 : ¬ w.heap.size + 1 + 1 = w.heap.size := by omega
  have n2 : ¬ w.heap.size + 1 + 1 = w.heap.size + 1 := by omega
  go_wp2_with fail
  go_region_held3 (fun W' => W'.cell? ⟨w.heap.size, 1, none⟩ = some (.string nx) ∧ W'.cell? ⟨w.heap.size, 2, none⟩ = some (.string dx) ∧ W'.cell? ⟨w.heap.size + 1, 1, none⟩ = some (.string ny) ∧ W'.cell? ⟨w.heap.size + 1, 2, none⟩ = some (.string dy)) (go_keep)
   (first
     | (go_at_call 167; refine (multiply_any _ _ _ (by omega) (by omega)).mono ?_; rintro e w3 ⟨rfl, hb3⟩; have hB3 := chain2 ‹Below wc.heap.size wc _› hb3 (Nat.le_refl _); obtain ⟨⟨_, c1, c2, _, _, _, _⟩, _⟩ := row7 (T.out.below hB3).b0; obtain ⟨⟨_, d1, d2, _, _, _, _⟩, _⟩ := row7 (T.out.below hB3).b1)
     | (go_at_call 165; refine (RN.out _).mono ?_; rintro e w4 ⟨rfl, hb4⟩; have hB4 := chain2 ‹Below wc.heap.size wc _› hb4 (Nat.le_refl _); obtain ⟨⟨_, c1, c2, _, _, _, _⟩, _⟩ := row7 (T.out.below hB4).b0; obtain ⟨⟨_, d1, d2, _, _, _, _⟩, _⟩ := row7 (T.out.below hB4).b1; obtain ⟨z, hz, hz2⟩ := (T.out.below hB4).b2; obtain ⟨z0, z1, z2, z3, z4, z5, z6, ⟨q0, q1, q2, q3, q4, q5, q6⟩, f2⟩ := row7z hz hz2; clear hz hz2; unfold vQ))
  all_goals go_wp2
  all_goals exact Three.ret (T.out.below ‹Below wc.heap.size wc _›) _ rfl rfl
theorem q_add_same {x y : Rat} (h : x.den = y.den) : Rat.divInt (x.num + y.num) (x.den : Int) = x + y := by
 rw [← q_add, ← h, ← Int.add_mul]
 rw [Rat.divInt_mul_right (by exact_mod_cast x.den_nz)]
set_option maxHeartbeats 8000000 in
set_option maxRecDepth 100000 in
theorem sumP (d : Nat) (hd : d ≤ 1000) (a a' : Ob) (p p' : Value) (w : World) (S : Nat → Prop) (hp : Pair w S a p) (hp' : Pair w S a' p') (hb : Bd d a.fix) (hb' : Bd d a'.fix) (ht : Tab w) :
 Calls Tryz.prog 131 #[vO a p, vO a' p'] w (RetN w (a.fix + a'.fix)) := by
 have HT := qh9 ht
 have A1 : Hid (∀ wd, Tab wd → Calls Tryz.prog 164 #[vO a p] wd (RetN wd a.fix)) := fun wd h => asNumP a p wd (fun q e => by subst e; exact hp) h
 have A2 : Hid (∀ wd, Tab wd → Calls Tryz.prog 164 #[vO a' p'] wd (RetN wd a'.fix)) := fun wd h => asNumP a' p' wd (fun q e => by subst e; exact hp') h
 clear ht hp hp'
 generalize a.fix = x at A1 hb ⊢
 generalize a'.fix = y at A2 hb' ⊢
 obtain ⟨x0, x1, x2, x3, x4, x5, e⟩ := cells7 a p
 obtain ⟨y0, y1, y2, y3, y4, y5, e'⟩ := cells7 a' p'
 unfold vO at A1 A2
 rw [e] at A1
 rw [e'] at A2
 unfold vO
 rw [e, e']
 clear e e'
 go_enter Tryz.func131, Tryz.ntmps131
 go_wp2_with fail
 have T0 := Three.new w #[x0, x1, x2, x3, x4, x5, p] #[y0, y1, y2, y3, y4, y5, p'] #[.int .i64 0, .string ⟨#[]⟩, .string ⟨#[]⟩, .string ⟨#[]⟩, .string ⟨#[]⟩, .string ⟨#[]⟩, .slice none 0 0] rfl
 generalize ((w.alloc (.cells #[x0, x1, x2, x3, x4, x5, p] 27)).alloc (.cells #[y0, y1, y2, y3, y4, y5, p'] 27)).alloc (.cells #[.int .i64 0, .string ⟨#[]⟩, .string ⟨#[]⟩, .string ⟨#[]⟩, .string ⟨#[]⟩, .string ⟨#[]⟩, .slice none 0 0] 27) = W at T0 ⊢
 go_upto_region 1 with fail
 go_cut [4] (fun s4 wx => s4 = .pointer (some ⟨w.heap.size + 1 + 1, 0, none⟩) ∧ Hid (Three w wx #[.int .i64 1, .string (nt x), .string (dt x), .string ⟨#[]⟩, .string ⟨#[]⟩, .string ⟨#[]⟩, .slice none 0 0] #[.int .i64 1, .string (nt y), .string (dt y), .string ⟨#[]⟩, .string ⟨#[]⟩, .string ⟨#[]⟩, .slice none 0 0]))
 case first =>
  have hB0 : Below W.heap.size W W.drew := (Below.refl _ _).drew
  obtain ⟨⟨c0, c1, c2, c3, c4, c5, c6⟩, f0⟩ := row7 T0.b0
  obtain ⟨⟨d0, d1, d2, d3, d4, d5, d6⟩, f1⟩ := row7 T0.b1
  have HB : Hid (∀ W', Below W.heap.size W W' → Tab W') := fun W' h => HT.out.below (T0.below h).bel
  go_region_with (first
   | (go_at_call_of 164 (Value.agg #[x0, x1, x2, x3, x4, x5, p]); refine (A1.out _ (HB.out _ ‹Below W.heap.size W _›)).mono ?_; rintro e w3 ⟨rfl, hb3⟩; have hB3 := chain2 ‹Below W.heap.size W _› hb3 (Nat.le_refl _); obtain ⟨⟨c0, c1, c2, c3, c4, c5, c6⟩, f0⟩ := row7 (T0.below hB3).b0; obtain ⟨⟨d0, d1, d2, d3, d4, d5, d6⟩, f1⟩ := row7 (T0.below hB3).b1; unfold vQ)
   | (go_at_call_of 164 (Value.agg #[y0, y1, y2, y3, y4, y5, p']); refine (A2.out _ (HB.out _ ‹Below W.heap.size W _›)).mono ?_; rintro e w4 ⟨rfl, hb4⟩; have hB4 := chain2 ‹Below W.heap.size W _› hb4 (Nat.le_refl _); obtain ⟨⟨c0, c1, c2, c3, c4, c5, c6⟩, f0⟩ := row7 (T0.below hB4).b0; obtain ⟨⟨d0, d1, d2, d3, d4, d5, d6⟩, f1⟩ := row7 (T0.below hB4).b1; unfold vQ))
  all_goals (go_wp2_with fail; go_meet; exact ⟨rfl, Three.set (T0.below ‹Below W.heap.size W _›) rfl rfl _ _ _ _ _ _ _ _ _ _ _ _ _ _⟩)
 case rest =>
  obtain ⟨rfl, T⟩ := hcut
  have b1 := bd_nt hb
  have b2 := bd_dt hb
  have b3 := bd_nt hb'
  have b4 := bd_dt hb'
  have hB0 : Below wc.heap.size wc wc.drew := (Below.refl _ _).drew
  have n1 : ¬ w.heap.size + 1 + 1 = w.heap.size := by omega
  have n2 : ¬ w.heap.size + 1 + 1 = w.heap.size + 1 := by omega
  obtain ⟨⟨_, c1, c2, _, _, _, _⟩, _⟩ := row7 T.out.b0
  obtain ⟨⟨_, d1, d2, _, _, _, _⟩, _⟩ := row7 T.out.b1
  have m1 := lt_pow_mul hb.1 hb'.2
  have m2 := lt_pow_mul hb'.1 hb.2
  have m3 := lt_pow_mul hb.2 hb'.2
  have hp2 : 10 ^ (d + d + 1) = 10 ^ (d + d) * 10 := Nat.pow_succ ..
  cases hd2 : ((dt x).toList == (dt y).toList) with
  | true =>
   have hden := of_decide_eq_true (dt_beq (x := x) (y := y) ▸ hd2)
   have hv : Hid (quo (LA (BA (text (val (LA (nt x)) + val (LA (nt y)))))) (LA (dt x)) = x + y) := by
    show quo _ (LA (BA (text (x.den : Int)))) = _
    rw [val_nt, val_nt, quo_text, q_add_same hden]
   have s1 : (BA (text (val (LA (nt x)) + val (LA (nt y))))).size ≤ 3000 := by
    rw [val_nt, val_nt, BA_size]
    refine Nat.le_trans (text_length (k := d + 1) ?_) (by omega)
    have hp : 10 ^ (d + 1) = 10 ^ d * 10 := Nat.pow_succ ..
    have h1 := hb.1
    have h2 := hb'.1
    have h3 := Int.natAbs_add_le x.num y.num
    omega
   have RN : Hid (∀ W, Calls Tryz.prog 165 #[.string (BA (text (val (LA (nt x)) + val (LA (nt y))))), .string (dt x)] W (RetN W (x + y))) := fun W => by
    rw [← hv.out]; exact ratN _ _ _ (by omega) (by omega)
   clear hb hb' A1 A2 T0 hv s1 m1 m2 m3 hp2 hden
   generalize nt x = nx at *
   generalize dt x = dx at *
   generalize nt y = ny at *
   generalize dt y = dy at *
   go_wp2_with fail
   go_region_held3 (fun W' => W'.cell? ⟨w.heap.size, 1, none⟩ = some (.string nx) ∧ W'.cell? ⟨w.heap.size, 2, none⟩ = some (.string dx) ∧ W'.cell? ⟨w.heap.size + 1, 1, none⟩ = some (.string ny)) (go_keep)
    (first
      | (go_at_call 166; refine (add_any _ _ _ (by omega) (by omega)).mono ?_; rintro e w3 ⟨rfl, hb3⟩; have hB3 := chain2 ‹Below wc.heap.size wc _› hb3 (Nat.le_refl _); obtain ⟨⟨_, c1, c2, _, _, _, _⟩, _⟩ := row7 (T.out.below hB3).b0; obtain ⟨⟨_, d1, d2, _, _, _, _⟩, _⟩ := row7 (T.out.below hB3).b1)
      | (go_at_call 165; refine (RN.out _).mono ?_; rintro e w4 ⟨rfl, hb4⟩; have hB4 := chain2 ‹Below wc.heap.size wc _› hb4 (Nat.le_refl _); obtain ⟨⟨_, c1, c2, _, _, _, _⟩, _⟩ := row7 (T.out.below hB4).b0; obtain ⟨⟨_, d1, d2, _, _, _, _⟩, _⟩ := row7 (T.out.below hB4).b1; obtain ⟨z, hz, hz2⟩ := (T.out.below hB4).b2; obtain ⟨z0, z1, z2, z3, z4, z5, z6, ⟨q0, q1, q2, q3, q4, q5, q6⟩, f2⟩ := row7z hz hz2; clear hz hz2; unfold vQ))
   all_goals go_wp2
   all_goals exact Three.ret (T.out.below ‹Below wc.heap.size wc _›) _ rfl rfl
  | false =>
   have s1 : (BA (text (val (LA (nt x)) * val (LA (dt y))))).size ≤ 3000 := by
    rw [val_nt, val_dt, BA_size]
    refine Nat.le_trans (text_length (k := d + d) ?_) (by omega)
    rw [Int.natAbs_mul]
    exact m1
   have s2 : (BA (text (val (LA (nt y)) * val (LA (dt x))))).size ≤ 3000 := by
    rw [val_nt, val_dt, BA_size]
    refine Nat.le_trans (text_length (k := d + d) ?_) (by omega)
    rw [Int.natAbs_mul]
    exact m2
   have s3 : (BA (text (val (LA (dt x)) * val (LA (dt y))))).size ≤ 3000 := by
    rw [val_dt, val_dt, BA_size]
    refine Nat.le_trans (text_length (k := d + d) ?_) (by omega)
    rw [Int.natAbs_mul]
    exact m3
   have hA : Hid (∀ W, Calls Tryz.prog 166 #[.string (BA (text (val (LA (nt x)) * val (LA (dt y))))), .string (BA (text (val (LA (nt y)) * val (LA (dt x)))))] W (RetS W (x.num * (y.den : Int) + y.num * (x.den : Int)))) := fun W => by
    have h := add_any (BA (text (val (LA (nt x)) * val (LA (dt y))))) (BA (text (val (LA (nt y)) * val (LA (dt x))))) W (by omega) (by omega)
    rw [LA_BA, LA_BA, val_text, val_text, val_nt, val_dt, val_nt, val_dt] at h
    rw [val_nt, val_dt, val_nt, val_dt]
    exact h
   have s4 : (BA (text (x.num * (y.den : Int) + y.num * (x.den : Int)))).size ≤ 3000 := by
    rw [BA_size]
    refine Nat.le_trans (text_length (k := d + d + 1) ?_) (by omega)
    have h3 := Int.natAbs_add_le (x.num * (y.den : Int)) (y.num * (x.den : Int))
    rw [Int.natAbs_mul, Int.natAbs_mul, Int.natAbs_natCast, Int.natAbs_natCast] at h3
    omega
   have RN : Hid (∀ W, Calls Tryz.prog 165 #[.string (BA (text (x.num * (y.den : Int) + y.num * (x.den : Int)))), .string (BA (text (val (LA (dt x)) * val (LA (dt y)))))] W (RetN W (x + y))) := fun W => by
    have h := ratN (BA (text (x.num * (y.den : Int) + y.num * (x.den : Int)))) (BA (text (val (LA (dt x)) * val (LA (dt y))))) W (by omega) (by omega)
    rw [val_dt, val_dt, quo_text, q_add] at h
    rw [val_dt, val_dt]
    exact h
   clear hb hb' A1 A2 T0 m1 m2 m3 hp2 s1 s2 s3 s4
   generalize x.num * (y.den : Int) + y.num * (x.den : Int) = nn at hA RN
   generalize nt x = nx at *
   generalize dt x = dx at *
   generalize nt y = ny at *
   generalize dt y = dy at *
   go_wp2_with fail
   go_region_held3 (fun W' => W'.cell? ⟨w.heap.size, 1, none⟩ = some (.string nx) ∧ W'.cell? ⟨w.heap.size, 2, none⟩ = some (.string dx) ∧ W'.cell? ⟨w.heap.size + 1, 1, none⟩ = some (.string ny) ∧ W'.cell? ⟨w.heap.size + 1, 2, none⟩ = some (.string dy)) (go_keep)
    (first
      | (go_at_call 167; refine (multiply_any _ _ _ (by omega) (by omega)).mono ?_; rintro e w3 ⟨rfl, hb3⟩; have hB3 := chain2 ‹Below wc.heap.size wc _› hb3 (Nat.le_refl _); obtain ⟨⟨_, c1, c2, _, _, _, _⟩, _⟩ := row7 (T.out.below hB3).b0; obtain ⟨⟨_, d1, d2, _, _, _, _⟩, _⟩ := row7 (T.out.below hB3).b1)
      | (go_at_call 166; refine (hA.out _).mono ?_; rintro e w3 ⟨rfl, hb3⟩; have hB3 := chain2 ‹Below wc.heap.size wc _› hb3 (Nat.le_refl _); obtain ⟨⟨_, c1, c2, _, _, _, _⟩, _⟩ := row7 (T.out.below hB3).b0; obtain ⟨⟨_, d1, d2, _, _, _, _⟩, _⟩ := row7 (T.out.below hB3).b1))
   go_wp2_with fail
   refine (multiply_any _ _ _ (by omega) (by omega)).mono ?_
   rintro e w5 ⟨rfl, hb5⟩
   have hB5 := chain2 ‹Below wc.heap.size wc _› hb5 (Nat.le_refl _)
   go_wp2_with fail
   refine (RN.out _).mono ?_
   rintro e w6 ⟨rfl, hb6⟩
   have T6 := qh9 (T.out.below (chain2 hB5 hb6 (Nat.le_refl _)))
   obtain ⟨z, hz, hz2⟩ := T6.out.b2
   have HZ := qh9 hz2
   have HZ1 := qh9 hz
   clear hz hz2
   go_wp2_with (refine storeN rfl (.tmp 4) (.tmp 40) rfl (w.heap.size + 1 + 1) (x + y) rfl rfl _ _ HZ.out HZ1.out ?_)
   exact retN (q := 4) (g := w.heap.size + 1 + 1) rfl rfl (setRow_heap _ _ _ _ _ _ HZ.out) rfl (below_setRowO T6.out.bel (by omega) _)
set_option maxHeartbeats 8000000
set_option maxRecDepth 100000

structure TwoB (w W : World) (x : Array Value) : Prop where
 b0 : W.heap[w.heap.size]? = some (.cells x 27 (0, 0))
 b1 : ∃ z : Array Value, z.size = 7 ∧ W.heap[w.heap.size + 1]? = some (.cells z 27 (0, 0))
 bel : Below w.heap.size w W
 size : w.heap.size + 2 ≤ W.heap.size
theorem TwoB.new (w : World) (x z : Array Value) (hz : z.size = 7) : TwoB w ((w.alloc (.cells x 27)).alloc (.cells z 27)) x :=
 ⟨heap_alloc2_old w _ _, ⟨z, hz, heap_alloc2_new w _ _⟩, Below.alloc (Below.alloc (Below.refl _ _) (Nat.le_refl _) _) (by simp) _, by simp⟩
theorem TwoB.below {w W W' : World} {x : Array Value} (h : TwoB w W x) (hb : Below W.heap.size W W') : TwoB w W' x := by
 have := h.size
 obtain ⟨z, hz, h2⟩ := h.b1
 exact ⟨(hb.block _ (by omega)).trans h.b0, ⟨z, hz, (hb.block _ (by omega)).trans h2⟩, h.bel.trans (hb.mono (by omega)), Nat.le_trans h.size hb.size⟩
theorem TwoB.set {w W : World} {x : Array Value} (h : TwoB w W x) (y : Array Value) : TwoB w (W.setRow w.heap.size y) y := by
 obtain ⟨z, hz, h2⟩ := h.b1
 exact ⟨setRow_heap _ _ _ _ _ _ h.b0, ⟨z, hz, (setRow_other _ _ _ _ (by omega)).trans h2⟩, below_setRowO h.bel (Nat.le_refl _) _, by rw [size_setRow]; exact h.size⟩
theorem TwoB.ret {w W : World} {x : Array Value} (T : TwoB w W x) (q : Rat) {fn : Func} {r : Tmp} {tmps : Array Value} (h : fn.results = #[.cell r 27]) (hr : tmps.getD r undef = .pointer (some ⟨w.heap.size + 1, 0, none⟩)) :
 bodyPost Tryz.prog fn (RetN w q) Exit.ret ⟨tmps, []⟩ (((((((W.setCell ⟨w.heap.size + 1, 0, none⟩ (.int .i64 1)).setCell ⟨w.heap.size + 1, 1, none⟩ (.string (nt q))).setCell ⟨w.heap.size + 1, 2, none⟩ (.string (dt q))).setCell ⟨w.heap.size + 1, 3, none⟩ (.string ⟨#[]⟩)).setCell ⟨w.heap.size + 1, 4, none⟩ (.string ⟨#[]⟩)).setCell ⟨w.heap.size + 1, 5, none⟩ (.string ⟨#[]⟩)).setCell ⟨w.heap.size + 1, 6, none⟩ (.slice none 0 0)) := by
 obtain ⟨z, hz, h2⟩ := T.b1
 rw [setRow7 h2 hz]
 exact retN h hr (setRow_heap _ _ _ _ _ _ h2) rfl (below_setRowO T.bel (by omega) _)

theorem reciprocalP (d : Nat) (hd : d ≤ 1000) (a : Ob) (p : Value) (w : World) (S : Nat → Prop) (hp : Pair w S a p) (hb : Bd d a.fix) (ht : Tab w) :
 Calls Tryz.prog 135 #[vO a p] w (RetN w (a.fix⁻¹)) := by
 have HT := qh9 ht
 have A1 : Hid (∀ wd, Tab wd → Calls Tryz.prog 164 #[vO a p] wd (RetN wd a.fix)) := fun wd h => asNumP a p wd (fun q e => by subst e; exact hp) h
 clear ht hp
 generalize a.fix = x at A1 hb ⊢
 obtain ⟨x0, x1, x2, x3, x4, x5, e⟩ := cells7 a p
 unfold vO at A1
 rw [e] at A1
 unfold vO
 rw [e]
 clear e
 go_enter Tryz.func135, Tryz.ntmps135
 go_wp2_with fail
 have T0 := TwoB.new w #[x0, x1, x2, x3, x4, x5, p] #[.int .i64 0, .string ⟨#[]⟩, .string ⟨#[]⟩, .string ⟨#[]⟩, .string ⟨#[]⟩, .string ⟨#[]⟩, .slice none 0 0] rfl
 generalize (w.alloc (.cells #[x0, x1, x2, x3, x4, x5, p] 27)).alloc (.cells #[.int .i64 0, .string ⟨#[]⟩, .string ⟨#[]⟩, .string ⟨#[]⟩, .string ⟨#[]⟩, .string ⟨#[]⟩, .slice none 0 0] 27) = W at T0 ⊢
 refine (A1.out _ (HT.out.below T0.bel)).mono ?_
 rintro e w1 ⟨rfl, hb1⟩
 have T1 := qh9 (T0.below hb1)
 have HZ := qh9 T1.out.b0
 have b1 := bd_nt hb
 have b2 := bd_dt hb
 have RN : Hid (∀ W, Calls Tryz.prog 165 #[.string (dt x), .string (nt x)] W (RetN W x⁻¹)) := fun W => by
  have h := ratN (dt x) (nt x) W (by omega) (by omega)
  have e : quo (LA (dt x)) (LA (nt x)) = x⁻¹ := by unfold quo; rw [val_nt, val_dt, q_inv]
  rw [e] at h
  exact h
 have k1 : (w1.setRow w.heap.size #[.int .i64 1, .string (nt x), .string (dt x), .string ⟨#[]⟩, .string ⟨#[]⟩, .string ⟨#[]⟩, .slice none 0 0]).cell? ⟨w.heap.size, 1, none⟩ = some (.string (nt x)) := by
  rw [cell_setRow_same _ _ _ _ _ _ _ HZ.out]; rfl
 have k2 : (w1.setRow w.heap.size #[.int .i64 1, .string (nt x), .string (dt x), .string ⟨#[]⟩, .string ⟨#[]⟩, .string ⟨#[]⟩, .slice none 0 0]).cell? ⟨w.heap.size, 2, none⟩ = some (.string (dt x)) := by
  rw [cell_setRow_same _ _ _ _ _ _ _ HZ.out]; rfl
 clear T0 hb1 A1 HT hb b1 b2
 go_wp2_with (refine storeN rfl (.tmp 1) (.tmp 4) rfl w.heap.size x rfl rfl _ _ HZ.out rfl ?_)
 have T2 := qh9 (T1.out.set #[.int .i64 1, .string (nt x), .string (dt x), .string ⟨#[]⟩, .string ⟨#[]⟩, .string ⟨#[]⟩, .slice none 0 0])
 clear HZ T1 k1 k2
 generalize w1.setRow w.heap.size #[.int .i64 1, .string (nt x), .string (dt x), .string ⟨#[]⟩, .string ⟨#[]⟩, .string ⟨#[]⟩, .slice none 0 0] = wc at T2 ⊢
 refine (RN.out _).mono ?_
 rintro e w6 ⟨rfl, hb6⟩
 have T6 := qh9 (T2.out.below hb6)
 obtain ⟨z, hz, hz2⟩ := T6.out.b1
 have HZ := qh9 hz2
 have HZ1 := qh9 hz
 clear hz hz2 hb6
 go_wp2_with (refine storeN rfl (.tmp 2) (.tmp 9) rfl (w.heap.size + 1) x⁻¹ rfl rfl _ _ HZ.out HZ1.out ?_)
 exact retN (q := 2) (g := w.heap.size + 1) rfl rfl (setRow_heap _ _ _ _ _ _ HZ.out) rfl (below_setRowO T6.out.bel (by omega) _)

theorem oppositeP (d : Nat) (hd : d ≤ 1000) (a : Ob) (p : Value) (w : World) (S : Nat → Prop) (hp : Pair w S a p) (hb : Bd d a.fix) (ht : Tab w) :
 Calls Tryz.prog 134 #[vO a p] w (RetN w (-a.fix)) := by
 have HT := qh9 ht
 have A1 : Hid (∀ wd, Tab wd → Calls Tryz.prog 164 #[vO a p] wd (RetN wd a.fix)) := fun wd h => asNumP a p wd (fun q e => by subst e; exact hp) h
 clear ht hp
 generalize a.fix = x at A1 hb ⊢
 obtain ⟨x0, x1, x2, x3, x4, x5, e⟩ := cells7 a p
 unfold vO at A1
 rw [e] at A1
 unfold vO
 rw [e]
 clear e
 go_enter Tryz.func134, Tryz.ntmps134
 go_wp2_with fail
 have T0 := TwoB.new w #[x0, x1, x2, x3, x4, x5, p] #[.int .i64 0, .string ⟨#[]⟩, .string ⟨#[]⟩, .string ⟨#[]⟩, .string ⟨#[]⟩, .string ⟨#[]⟩, .slice none 0 0] rfl
 generalize (w.alloc (.cells #[x0, x1, x2, x3, x4, x5, p] 27)).alloc (.cells #[.int .i64 0, .string ⟨#[]⟩, .string ⟨#[]⟩, .string ⟨#[]⟩, .string ⟨#[]⟩, .string ⟨#[]⟩, .slice none 0 0] 27) = W at T0 ⊢
 refine (A1.out _ (HT.out.below T0.bel)).mono ?_
 rintro e w1 ⟨rfl, hb1⟩
 have T1 := qh9 (T0.below hb1)
 have HZ := qh9 T1.out.b0
 clear T0 hb1 A1 HT
 go_wp2_with (refine storeN rfl (.tmp 1) (.tmp 4) rfl w.heap.size x rfl rfl _ _ HZ.out rfl ?_)
 have T2 := qh9 (T1.out.set #[.int .i64 1, .string (nt x), .string (dt x), .string ⟨#[]⟩, .string ⟨#[]⟩, .string ⟨#[]⟩, .slice none 0 0])
 clear HZ T1
 generalize w1.setRow w.heap.size #[.int .i64 1, .string (nt x), .string (dt x), .string ⟨#[]⟩, .string ⟨#[]⟩, .string ⟨#[]⟩, .slice none 0 0] = wc at T2 ⊢
 obtain ⟨⟨_, c1, c2, _, _, _, _⟩, _⟩ := row7 T2.out.b0
 have b1 := bd_nt hb
 have b2 := bd_dt hb
 have s1 : (BA (text (- val (LA (nt x))))).size ≤ 3000 := by
  rw [val_nt, BA_size]
  refine Nat.le_trans (text_length (k := d) ?_) (by omega)
  rw [Int.natAbs_neg]
  exact hb.1
 have RN : Hid (∀ W, Calls Tryz.prog 165 #[.string (BA (text (- val (LA (nt x))))), .string (dt x)] W (RetN W (-x))) := fun W => by
  have h := ratN (BA (text (- val (LA (nt x))))) (dt x) W (by omega) (by omega)
  have e : quo (LA (BA (text (- val (LA (nt x)))))) (LA (dt x)) = -x := by
   show quo _ (LA (BA (text (x.den : Int)))) = _
   rw [val_nt, quo_text, q_neg]
  rw [e] at h
  exact h
 clear hb s1
 have hB0 : Below wc.heap.size wc wc.drew := (Below.refl _ _).drew
 have n1 : ¬ w.heap.size + 1 = w.heap.size := by omega
 generalize nt x = nx at *
 generalize dt x = dx at *
 go_wp2_with fail
 go_region_held3 (fun W' => W'.cell? ⟨w.heap.size, 1, none⟩ = some (.string nx) ∧ W'.cell? ⟨w.heap.size, 2, none⟩ = some (.string dx)) (go_keep)
  (first
    | (go_at_call 168; refine (negate_any _ _ (by omega)).mono ?_; rintro e w3 ⟨rfl, hb3⟩; have hB3 := chain2 ‹Below wc.heap.size wc _› hb3 (Nat.le_refl _); obtain ⟨⟨_, c1, c2, _, _, _, _⟩, _⟩ := row7 (T2.out.below hB3).b0)
    | (go_at_call 165; refine (RN.out _).mono ?_; rintro e w4 ⟨rfl, hb4⟩; have hB4 := chain2 ‹Below wc.heap.size wc _› hb4 (Nat.le_refl _); obtain ⟨⟨_, c1, c2, _, _, _, _⟩, _⟩ := row7 (T2.out.below hB4).b0; obtain ⟨z, hz, hz2⟩ := (T2.out.below hB4).b1; obtain ⟨z0, z1, z2, z3, z4, z5, z6, ⟨q0, q1, q2, q3, q4, q5, q6⟩, f2⟩ := row7z hz hz2; clear hz hz2; unfold vQ))
 all_goals go_wp2
 all_goals exact TwoB.ret (T2.out.below ‹Below wc.heap.size wc _›) _ rfl rfl

structure BoxB (w W : World) (x y : Array Value) : Prop where
 b0 : W.heap[w.heap.size]? = some (.cells x 27 (0, 0))
 b1 : W.heap[w.heap.size + 1]? = some (.cells y 27 (0, 0))
 bel : Below w.heap.size w W
 size : w.heap.size + 2 ≤ W.heap.size
theorem BoxB.new (w : World) (x y : Array Value) : BoxB w ((w.alloc (.cells x 27)).alloc (.cells y 27)) x y :=
 ⟨heap_alloc2_old w _ _, heap_alloc2_new w _ _, Below.alloc (Below.alloc (Below.refl _ _) (Nat.le_refl _) _) (by simp) _, by simp⟩
theorem BoxB.below {w W W' : World} {x y : Array Value} (h : BoxB w W x y) (hb : Below W.heap.size W W') : BoxB w W' x y := by
 have := h.size
 exact ⟨(hb.block _ (by omega)).trans h.b0, (hb.block _ (by omega)).trans h.b1, h.bel.trans (hb.mono (by omega)), Nat.le_trans h.size hb.size⟩

theorem lessP (d : Nat) (hd : d ≤ 1000) (a a' : Ob) (p p' : Value) (w : World) (S : Nat → Prop) (hp : Pair w S a p) (hp' : Pair w S a' p') (hb : Bd d a.fix) (hb' : Bd d a'.fix) (ht : Tab w) :
 Calls Tryz.prog 138 #[vO a p, vO a' p'] w (RetB w (decide (ordQ a.fix a'.fix < 0))) := by
 have HT := qh9 ht
 have A1 : Hid (∀ wd, Tab wd → Calls Tryz.prog 164 #[vO a p] wd (RetN wd a.fix)) := fun wd h => asNumP a p wd (fun q e => by subst e; exact hp) h
 have A2 : Hid (∀ wd, Tab wd → Calls Tryz.prog 164 #[vO a' p'] wd (RetN wd a'.fix)) := fun wd h => asNumP a' p' wd (fun q e => by subst e; exact hp') h
 have CN : Hid (∀ wd, Calls Tryz.prog 170 #[vQ a.fix, vQ a'.fix] wd (RetI wd (ordQ a.fix a'.fix))) := fun wd => cmpNumP d hd _ _ wd hb hb'
 clear ht hp hp' hb hb'
 generalize a.fix = x at A1 CN ⊢
 generalize a'.fix = y at A2 CN ⊢
 generalize ordQ x y = r at CN ⊢
 obtain ⟨x0, x1, x2, x3, x4, x5, e⟩ := cells7 a p
 obtain ⟨y0, y1, y2, y3, y4, y5, e'⟩ := cells7 a' p'
 unfold vO at A1 A2
 rw [e] at A1
 rw [e'] at A2
 unfold vO
 rw [e, e']
 clear e e'
 go_enter Tryz.func138, Tryz.ntmps138
 go_wp2_with fail
 have T0 := BoxB.new w #[x0, x1, x2, x3, x4, x5, p] #[y0, y1, y2, y3, y4, y5, p']
 generalize (w.alloc (.cells #[x0, x1, x2, x3, x4, x5, p] 27)).alloc (.cells #[y0, y1, y2, y3, y4, y5, p'] 27) = W at T0 ⊢
 have hB0 : Below W.heap.size W W.drew := (Below.refl _ _).drew
 obtain ⟨⟨c0, c1, c2, c3, c4, c5, c6⟩, _⟩ := row7 T0.b0
 obtain ⟨⟨d0, d1, d2, d3, d4, d5, d6⟩, _⟩ := row7 T0.b1
 have HB : Hid (∀ W', Below W.heap.size W W' → Tab W') := fun W' h => HT.out.below (T0.below h).bel
 have HT0 := qh9 T0
 clear T0 HT
 go_region_held3 (fun W' => (W'.cell? ⟨w.heap.size, 0, none⟩ = some x0 ∧ W'.cell? ⟨w.heap.size, 1, none⟩ = some x1 ∧ W'.cell? ⟨w.heap.size, 2, none⟩ = some x2 ∧ W'.cell? ⟨w.heap.size, 3, none⟩ = some x3 ∧ W'.cell? ⟨w.heap.size, 4, none⟩ = some x4 ∧ W'.cell? ⟨w.heap.size, 5, none⟩ = some x5 ∧ W'.cell? ⟨w.heap.size, 6, none⟩ = some p) ∧
  (W'.cell? ⟨w.heap.size + 1, 0, none⟩ = some y0 ∧ W'.cell? ⟨w.heap.size + 1, 1, none⟩ = some y1 ∧ W'.cell? ⟨w.heap.size + 1, 2, none⟩ = some y2 ∧ W'.cell? ⟨w.heap.size + 1, 3, none⟩ = some y3 ∧ W'.cell? ⟨w.heap.size + 1, 4, none⟩ = some y4 ∧ W'.cell? ⟨w.heap.size + 1, 5, none⟩ = some y5 ∧ W'.cell? ⟨w.heap.size + 1, 6, none⟩ = some p')) (first | exact ⟨(row7 (HT0.out.below ‹Below W.heap.size W _›).b0).1, (row7 (HT0.out.below ‹Below W.heap.size W _›).b1).1⟩ | go_keep)
  (first
    | (go_at_call_of 164 (Value.agg #[x0, x1, x2, x3, x4, x5, p]); refine (A1.out _ (HB.out _ ‹Below W.heap.size W _›)).mono ?_; rintro e w3 ⟨rfl, hb3⟩; have hB3 := chain2 ‹Below W.heap.size W _› hb3 (Nat.le_refl _); clear hb3)
    | (go_at_call_of 164 (Value.agg #[y0, y1, y2, y3, y4, y5, p']); refine (A2.out _ (HB.out _ ‹Below W.heap.size W _›)).mono ?_; rintro e w4 ⟨rfl, hb4⟩; have hB4 := chain2 ‹Below W.heap.size W _› hb4 (Nat.le_refl _); clear hb4)
    | (go_at_call 170; refine (CN.out _).mono ?_; rintro e w5 ⟨rfl, hb5⟩; have hB5 := chain2 ‹Below W.heap.size W _› hb5 (Nat.le_refl _); clear hb5))
 all_goals go_wp2
 all_goals go_ret
 all_goals exact ⟨rfl, (HT0.out.below ‹Below W.heap.size W _›).bel⟩
set_option maxHeartbeats 1000000 in
theorem isLetterP (c : Int) (h1 : 97 ≤ c) (h2 : c ≤ 122) (w : World) : Calls Tryz.prog 151 #[.int .u8 c] w fun e w' => e = .returned (.bool true) ∧ w = w' := by
 go_enter Tryz.func151, Tryz.ntmps151
 go_wp2
 go_ret
 exact ⟨rfl, rfl⟩
set_option maxHeartbeats 1000000 in
theorem isNameP (s : ByteArray) (h1 : 1 ≤ s.size) (h2 : s.size ≤ 40) (w : World) : Calls Tryz.prog 112 #[.string s] w fun e w' => e = .returned (.bool true) ∧ w = w' := by
 have h3 : (1 : Int) ≤ (s.size : Int) := by omega
 have h4 : (s.size : Int) ≤ 40 := by omega
 go_enter Tryz.func112, Tryz.ntmps112
 go_wp2
 go_ret
 exact ⟨rfl, rfl⟩
set_option maxHeartbeats 4000000 in
set_option maxRecDepth 100000 in
theorem isPackageP (w : World) : Calls Tryz.prog 111 #[.string (BA lispB)] w fun e w' => e = .returned (.bool true) ∧ w = w' := by
 show Calls _ _ #[.string ⟨#[108, 105, 115, 112]⟩] _ _
 go_enter Tryz.func111, Tryz.ntmps111
 go_wp2_with fail
 refine (isNameP ⟨#[108, 105, 115, 112]⟩ (by decide) (by decide) _).mono ?_
 rintro e w' ⟨rfl, rfl⟩
 go_wp2_with fail
 refine (isLetterP 108 (by decide) (by decide) _).mono ?_
 rintro e w' ⟨rfl, rfl⟩
 go_wp2_with fail
 go_loop [15] (fun v => ∃ i : Nat, i ≤ 4 ∧ v = .int .i64 i) (fun v => 4 - (intOf v).toNat)
 case atStart => exact ⟨0, by omega, rfl⟩
 case round =>
  obtain ⟨i, hi, rfl⟩ := hrel
  have h5 : i = 0 ∨ i = 1 ∨ i = 2 ∨ i = 3 ∨ i = 4 := by omega
  rcases h5 with rfl | rfl | rfl | rfl | rfl
  · go_wp2_with fail
    refine (isLetterP 108 (by decide) (by decide) _).mono ?_
    rintro e w' ⟨rfl, rfl⟩
    go_wp2
    go_round
    case rel => exact ⟨1, by omega, rfl⟩
    case measure => simp [intOf]
  · go_wp2_with fail
    refine (isLetterP 105 (by decide) (by decide) _).mono ?_
    rintro e w' ⟨rfl, rfl⟩
    go_wp2
    go_round
    case rel => exact ⟨2, by omega, rfl⟩
    case measure => simp [intOf]
  · go_wp2_with fail
    refine (isLetterP 115 (by decide) (by decide) _).mono ?_
    rintro e w' ⟨rfl, rfl⟩
    go_wp2
    go_round
    case rel => exact ⟨3, by omega, rfl⟩
    case measure => simp [intOf]
  · go_wp2_with fail
    refine (isLetterP 112 (by decide) (by decide) _).mono ?_
    rintro e w' ⟨rfl, rfl⟩
    go_wp2
    go_round
    case rel => exact ⟨4, by omega, rfl⟩
    case measure => simp [intOf]
  · go_wp2
    go_ret
    exact ⟨rfl, rfl⟩
set_option maxHeartbeats 4000000 in
set_option maxRecDepth 100000 in
theorem isPackageU (w : World) : Calls Tryz.prog 111 #[.string (BA userB)] w fun e w' => e = .returned (.bool true) ∧ w = w' := by
 show Calls _ _ #[.string ⟨#[117, 115, 101, 114]⟩] _ _
 go_enter Tryz.func111, Tryz.ntmps111
 go_wp2_with fail
 refine (isNameP ⟨#[117, 115, 101, 114]⟩ (by decide) (by decide) _).mono ?_
 rintro e w' ⟨rfl, rfl⟩
 go_wp2_with fail
 refine (isLetterP 117 (by decide) (by decide) _).mono ?_
 rintro e w' ⟨rfl, rfl⟩
 go_wp2_with fail
 go_loop [15] (fun v => ∃ i : Nat, i ≤ 4 ∧ v = .int .i64 i) (fun v => 4 - (intOf v).toNat)
 case atStart => exact ⟨0, by omega, rfl⟩
 case round =>
  obtain ⟨i, hi, rfl⟩ := hrel
  have h5 : i = 0 ∨ i = 1 ∨ i = 2 ∨ i = 3 ∨ i = 4 := by omega
  rcases h5 with rfl | rfl | rfl | rfl | rfl
  · go_wp2_with fail
    refine (isLetterP 117 (by decide) (by decide) _).mono ?_
    rintro e w' ⟨rfl, rfl⟩
    go_wp2
    go_round
    case rel => exact ⟨1, by omega, rfl⟩
    case measure => simp [intOf]
  · go_wp2_with fail
    refine (isLetterP 115 (by decide) (by decide) _).mono ?_
    rintro e w' ⟨rfl, rfl⟩
    go_wp2
    go_round
    case rel => exact ⟨2, by omega, rfl⟩
    case measure => simp [intOf]
  · go_wp2_with fail
    refine (isLetterP 101 (by decide) (by decide) _).mono ?_
    rintro e w' ⟨rfl, rfl⟩
    go_wp2
    go_round
    case rel => exact ⟨3, by omega, rfl⟩
    case measure => simp [intOf]
  · go_wp2_with fail
    refine (isLetterP 114 (by decide) (by decide) _).mono ?_
    rintro e w' ⟨rfl, rfl⟩
    go_wp2
    go_round
    case rel => exact ⟨4, by omega, rfl⟩
    case measure => simp [intOf]
  · go_wp2
    go_ret
    exact ⟨rfl, rfl⟩
set_option maxHeartbeats 1000000 in
theorem isShortP (x : Int) (h : x.natAbs < 10 ^ 90) (w : World) : Calls Tryz.prog 148 #[.string (BA (text x))] w fun e w' => e = .returned (.bool true) ∧ w = w' := by
 have hl := text_length (x := x) (k := 90) h
 have hs : (BA (text x)).size ≤ 92 := by rw [BA_size]; exact hl
 have hv : valid (LA (BA (text x))) = true := by rw [LA_BA]; exact valid_text x
 have hd : ((body (LA (BA (text x)))).length : Int) ≤ 100 := by
  unfold body
  rw [hv, LA_BA]
  have := strip_length (text x)
  simp only [if_true]
  omega
 have V : Hid (∀ w, Calls Tryz.prog 177 #[.string (BA (text x))] w fun e w' => e = .returned (.bool true) ∧ w = w') := fun w => by
  have := valid_any (BA (text x)) w (by unfold maxLen; omega)
  rw [hv] at this
  exact this
 have D : Hid (∀ w, Calls Tryz.prog 178 #[.string (BA (text x))] w fun e w' => e = .returned (.int .i64 ((body (LA (BA (text x)))).length : Nat)) ∧ w = w') := fun w => digits_any _ w (by omega)
 clear h hl hv
 generalize BA (text x) = s at hs hd V D ⊢
 generalize (body (LA s)).length = n at hd D
 go_enter Tryz.func148, Tryz.ntmps148
 go_wp2_with fail
 refine (V.out _).mono ?_
 rintro e w' ⟨rfl, rfl⟩
 go_wp2_with fail
 refine (D.out _).mono ?_
 rintro e w' ⟨rfl, rfl⟩
 go_wp2
 go_ret
 exact ⟨rfl, rfl⟩
set_option maxHeartbeats 1000000 in
theorem isFractionP (x : Int) (h : x.natAbs < 10 ^ 90) (w : World) : Calls Tryz.prog 110 #[.string (BA (text x)), .string ⟨#[49]⟩] w fun e w' => e = .returned (.bool true) ∧ w = w' := by
 have C1 := fun w => isShortP x h w
 have C2 : ∀ w, Calls Tryz.prog 148 #[.string ⟨#[49]⟩] w fun e w' => e = .returned (.bool true) ∧ w = w' := fun w => isShortP 1 (by decide) w
 replace C1 := qh9 C1
 replace C2 := qh9 C2
 clear h
 generalize BA (text x) = s at C1 ⊢
 go_enter Tryz.func110, Tryz.ntmps110
 go_wp2_with fail
 refine (C1.out _).mono ?_
 rintro e w' ⟨rfl, rfl⟩
 go_wp2_with fail
 refine (C2.out _).mono ?_
 rintro e w' ⟨rfl, rfl⟩
 go_wp2
 go_ret
 exact ⟨rfl, rfl⟩
theorem val_zero1 : val (LA ⟨#[48]⟩) = 0 := by decide
set_option maxHeartbeats 1000000 in
theorem isFracQ (q : Rat) (h : Bd 90 q) (w : World) : Calls Tryz.prog 110 #[.string (nt q), .string (dt q)] w (RetB w true) := by
 by_cases hd : q.den = 1
 · have e : dt q = ⟨#[49]⟩ := by unfold dt; rw [hd]; decide
   rw [e]
   exact (isFractionP q.num h.1 w).mono fun e w' hh => ⟨hh.1, hh.2 ▸ Below.refl _ _⟩
 · have s1 := bd_nt h
   have s2 := bd_dt h
   have C1 : Hid (∀ w, Calls Tryz.prog 148 #[.string (nt q)] w fun e w' => e = .returned (.bool true) ∧ w = w') := fun w => isShortP q.num h.1 w
   have C2 : Hid (∀ w, Calls Tryz.prog 148 #[.string (dt q)] w fun e w' => e = .returned (.bool true) ∧ w = w') := fun w => isShortP (q.den : Int) (by rw [Int.natAbs_natCast]; exact h.2) w
   have C3 : Hid (∀ w, Calls Tryz.prog 149 #[.string (dt q), .string ⟨#[48]⟩] w fun e w' => e = .returned (.int .i64 1) ∧ w = w') := fun w => by
    have h3 := compare_any (dt q) ⟨#[48]⟩ w (by omega) (by decide)
    rw [val_dt, val_zero1] at h3
    have : ordI (q.den : Int) 0 = 1 := by
     have := q.den_pos
     unfold ordI
     rw [if_neg (by omega), if_pos (by omega)]
    rw [this] at h3
    exact h3
   have C4 : Hid (∀ w, Calls Tryz.prog 150 #[.string (nt q), .string (dt q)] w fun e w' => e = .returned (.string ⟨#[49]⟩) ∧ Below w.heap.size w w') := fun w => by
    have h4 := gcd_any (nt q) (dt q) w (by omega) (by omega)
    rw [← val_natAbs, ← val_natAbs, val_nt, val_dt, Int.natAbs_natCast, q.reduced.gcd_eq_one] at h4
    exact h4
   have hn : ((dt q).toList == [49]) = false := by
    rw [beq_eq_false_iff_ne]
    intro e
    apply hd
    have e2 : LA (dt q) = [49] := by rw [← e, Lib.toList_data]; rfl
    have := val_dt q
    rw [e2] at this
    have h1 : val [49] = 1 := by decide
    omega
   clear h hd s1 s2
   generalize nt q = nq at *
   generalize dt q = dq at *
   go_enter Tryz.func110, Tryz.ntmps110
   go_wp2_with fail
   refine (C1.out _).mono ?_
   rintro e w' ⟨rfl, rfl⟩
   go_wp2_with fail
   refine (C2.out _).mono ?_
   rintro e w' ⟨rfl, rfl⟩
   go_wp2_with fail
   refine (C3.out _).mono ?_
   rintro e w' ⟨rfl, rfl⟩
   go_wp2_with fail
   refine (C4.out _).mono ?_
   rintro e w' ⟨rfl, hb⟩
   have HB := qh9 hb
   clear hb
   go_wp2
   go_ret
   exact ⟨rfl, HB.out⟩
theorem eqS_self (s1 s2 s3 s4 s5 : ByteArray) : eqS s1 s2 s3 s4 s5 s1 s2 s3 s4 s5 = true := by unfold eqS; simp
set_option maxHeartbeats 4000000 in
set_option maxRecDepth 100000 in
theorem hasOnlyP (b k : Nat) (w : World) (x : Int) (s1 s2 s3 s4 s5 : ByteArray) (A : Option Addr) (n c : Nat)
 (l0 : w.cell? ⟨b, k, none⟩ = some (.int .i64 x)) (l1 : w.cell? ⟨b, k + 1, none⟩ = some (.string s1)) (l2 : w.cell? ⟨b, k + 2, none⟩ = some (.string s2)) (l3 : w.cell? ⟨b, k + 3, none⟩ = some (.string s3)) (l4 : w.cell? ⟨b, k + 4, none⟩ = some (.string s4)) (l5 : w.cell? ⟨b, k + 5, none⟩ = some (.string s5)) (l6 : w.cell? ⟨b, k + 6, none⟩ = some (.slice A n c)) :
 Calls Tryz.prog 109 #[.pointer (some ⟨b, k, none⟩), .agg #[.int .i64 0, .string s1, .string s2, .string s3, .string s4, .string s5, .slice A n c]] w (RetB w true) := by
 have hlt := World.block_lt_of_cell? w _ l0
 have hne : ¬ b = w.heap.size := by have : b < w.heap.size := hlt; omega
 have hb0 := Below.alloc (Below.refl w.heap.size w) (Nat.le_refl _) (.cells #[.int .i64 x, .string s1, .string s2, .string s3, .string s4, .string s5, .slice A n c] 27)
 have hg0 := heap_alloc_new w (.cells #[.int .i64 x, .string s1, .string s2, .string s3, .string s4, .string s5, .slice A n c] 27)
 go_enter Tryz.func109, Tryz.ntmps109
 go_wp2_with fail
 have k0 := (hb0.cell (p := ⟨b, k, none⟩) hlt).trans l0
 have k1 := (hb0.cell (p := ⟨b, k + 1, none⟩) hlt).trans l1
 have k2 := (hb0.cell (p := ⟨b, k + 2, none⟩) hlt).trans l2
 have k3 := (hb0.cell (p := ⟨b, k + 3, none⟩) hlt).trans l3
 have k4 := (hb0.cell (p := ⟨b, k + 4, none⟩) hlt).trans l4
 have k5 := (hb0.cell (p := ⟨b, k + 5, none⟩) hlt).trans l5
 have k6 := (hb0.cell (p := ⟨b, k + 6, none⟩) hlt).trans l6
 generalize w.alloc (.cells #[.int .i64 x, .string s1, .string s2, .string s3, .string s4, .string s5, .slice A n c] 27) = W at hb0 hg0 k0 k1 k2 k3 k4 k5 k6 ⊢
 obtain ⟨⟨g0, g1, g2, g3, g4, g5, g6⟩, _⟩ := row7 hg0
 have C : Hid (∀ m, Calls Tryz.prog 147 #[.pointer (some ⟨b, k, none⟩), .pointer (some ⟨w.heap.size, 0, none⟩)] (W.drewN m) (QuietV (W.drewN m) (.bool true))) := fun m => by
  have h := sameRaw b k w.heap.size 0 (W.drewN m) x x s1 s2 s3 s4 s5 s1 s2 s3 s4 s5 k0 k1 k2 k3 k4 k5 g0 g1 g2 g3 g4 g5
  rw [eqS_self] at h
  simpa using h
 have HB := qh9 hb0
 clear l0 l1 l2 l3 l4 l5 l6 k0 k1 k2 k3 k4 k5 g0 g1 g2 g3 g4 g5 hg0 hb0
 go_quiet ((go_at_call 147; exact Calls.quiet_of (C.out _)))
 go_wp2
 go_ret
 exact ⟨rfl, HB.out.trans (⟨rfl, rfl, rfl, Nat.le_refl _, fun _ _ => rfl⟩ : Below w.heap.size W (W.drewN nq))⟩

set_option maxHeartbeats 4000000 in
set_option maxRecDepth 100000 in
theorem wellP : ∀ (a : Ob) (b k : Nat) (p : Value) (w : World) (S : Nat → Prop), a.bd 90 → In S w → At w S a b k p →
 Calls Tryz.prog 56 #[.pointer (some ⟨b, k, none⟩)] w (RetB w true) := by
 intro a
 induction a with
 | num q =>
  intro b k p w S hwf hS h
  obtain ⟨x0, x1, x2, x3, x4, x5, e, l0, l1, l2, l3, l4, l5, l6⟩ := h.cells
  obtain rfl := h.2.2.flat rfl
  have hlt : b < w.heap.size := hS b h.1.1
  rw [cellsO_f] at e
  simp only [List.cons.injEq, and_true] at e
  obtain ⟨rfl, rfl, rfl, rfl, rfl, rfl⟩ := e
  have hF : Hid (∀ w, Calls Tryz.prog 110 #[.string (nt q), .string (dt q)] w (RetB w true)) := fun w => isFracQ q hwf w
  have HO : Hid (∀ wd, Below w.heap.size w wd → Calls Tryz.prog 109 #[.pointer (some ⟨b, k, none⟩), .agg #[.int .i64 0, .string (nt q), .string (dt q), .string ⟨#[]⟩, .string ⟨#[]⟩, .string ⟨#[]⟩, .slice none 0 0]] wd (RetB wd true)) := fun wd hb =>
   hasOnlyP b k wd 1 (nt q) (dt q) ⟨#[]⟩ ⟨#[]⟩ ⟨#[]⟩ none 0 0 ((hb.cell (p := ⟨b, k, none⟩) hlt).trans l0) ((hb.cell (p := ⟨b, k + 1, none⟩) hlt).trans l1) ((hb.cell (p := ⟨b, k + 2, none⟩) hlt).trans l2) ((hb.cell (p := ⟨b, k + 3, none⟩) hlt).trans l3) ((hb.cell (p := ⟨b, k + 4, none⟩) hlt).trans l4) ((hb.cell (p := ⟨b, k + 5, none⟩) hlt).trans l5) ((hb.cell (p := ⟨b, k + 6, none⟩) hlt).trans l6)
  have HC : Hid (∀ wd, Below w.heap.size w wd → wd.cell? ⟨b, k + 1, none⟩ = some (.string (nt q)) ∧ wd.cell? ⟨b, k + 2, none⟩ = some (.string (dt q))) := fun wd hb => ⟨(hb.cell (p := ⟨b, k + 1, none⟩) hlt).trans l1, (hb.cell (p := ⟨b, k + 2, none⟩) hlt).trans l2⟩
  have hB0 : Below w.heap.size w w.drew := (Below.refl _ _).drew
  change w.cell? ⟨b, k, none⟩ = some (.int .i64 1) at l0
  change w.cell? ⟨b, k + 1, none⟩ = some (.string (nt q)) at l1
  change w.cell? ⟨b, k + 2, none⟩ = some (.string (dt q)) at l2
  clear l3 l4 l5 l6 h hwf
  generalize nt q = nq at *
  generalize dt q = dq at *
  go_enter Tryz.func56, Tryz.ntmps56
  go_wp2_with fail
  go_region_held3 (fun W' => W'.cell? ⟨b, k + 1, none⟩ = some (.string nq) ∧ W'.cell? ⟨b, k + 2, none⟩ = some (.string dq)) (go_keep)
   (first
     | (go_at_call 109; refine (HO.out _ ‹Below w.heap.size w _›).mono ?_; rintro e w3 ⟨rfl, hb3⟩; have hB3 := chain2 ‹Below w.heap.size w _› hb3 (Nat.le_refl _); obtain ⟨l1, l2⟩ := HC.out _ hB3; clear hb3)
     | (go_at_call 110; refine (hF.out _).mono ?_; rintro e w4 ⟨rfl, hb4⟩; have hB4 := chain2 ‹Below w.heap.size w _› hb4 (Nat.le_refl _); obtain ⟨l1, l2⟩ := HC.out _ hB4; clear hb4))
  all_goals go_wp2
  all_goals go_ret
  all_goals exact ⟨rfl, ‹Below w.heap.size w _›⟩
 | str s =>
  intro b k p w S hwf hS h
  obtain ⟨x0, x1, x2, x3, x4, x5, e, l0, l1, l2, l3, l4, l5, l6⟩ := h.cells
  obtain rfl := h.2.2.flat rfl
  have hlt : b < w.heap.size := hS b h.1.1
  rw [cellsO_f] at e
  simp only [List.cons.injEq, and_true] at e
  obtain ⟨rfl, rfl, rfl, rfl, rfl, rfl⟩ := e
  have hsz : ((BA s).size : Int) ≤ 200 := by rw [BA_size]; have : s.length ≤ 200 := hwf; omega
  change w.cell? ⟨b, k, none⟩ = some (.int .i64 3) at l0
  change w.cell? ⟨b, k + 5, none⟩ = some (.string (BA s)) at l5
  have HO := qh9 (hasOnlyP b k w 3 ⟨#[]⟩ ⟨#[]⟩ ⟨#[]⟩ ⟨#[]⟩ (BA s) none 0 0 l0 l1 l2 l3 l4 l5 l6)
  have HC : Hid (∀ wd, Below w.heap.size w wd → wd.cell? ⟨b, k + 5, none⟩ = some (.string (BA s))) := fun wd hb => (hb.cell (p := ⟨b, k + 5, none⟩) hlt).trans l5
  clear l1 l2 l3 l4 l6 h hwf
  generalize BA s = t at *
  go_enter Tryz.func56, Tryz.ntmps56
  go_wp2_with fail
  refine HO.out.mono ?_
  rintro e w1 ⟨rfl, hb1⟩
  have j5 := HC.out _ hb1
  have HB := qh9 hb1
  clear hb1 l5 l0
  go_wp2
  go_ret
  exact ⟨rfl, HB.out⟩
 | sym s n =>
  intro b k p w S hwf hS h
  obtain ⟨x0, x1, x2, x3, x4, x5, e, l0, l1, l2, l3, l4, l5, l6⟩ := h.cells
  obtain rfl := h.2.2.flat rfl
  have hlt : b < w.heap.size := hS b h.1.1
  rw [cellsO_f] at e
  simp only [List.cons.injEq, and_true] at e
  obtain ⟨rfl, rfl, rfl, rfl, rfl, rfl⟩ := e
  obtain ⟨hpk, hn1, hn2⟩ := hwf
  have hN := fun w => isNameP (BA n) (by rw [BA_size]; exact hn1) (by rw [BA_size]; exact hn2) w
  replace hN := qh9 hN
  have hP : Hid (∀ w, Calls Tryz.prog 111 #[.string (BA s)] w fun e w' => e = .returned (.bool true) ∧ w = w') := by
   rcases hpk with rfl | rfl
   · exact isPackageP
   · exact isPackageU
  change w.cell? ⟨b, k, none⟩ = some (.int .i64 2) at l0
  change w.cell? ⟨b, k + 3, none⟩ = some (.string (BA s)) at l3
  change w.cell? ⟨b, k + 4, none⟩ = some (.string (BA n)) at l4
  have HO := qh9 (hasOnlyP b k w 2 ⟨#[]⟩ ⟨#[]⟩ (BA s) (BA n) ⟨#[]⟩ none 0 0 l0 l1 l2 l3 l4 l5 l6)
  have HC : Hid (∀ wd, Below w.heap.size w wd → wd.cell? ⟨b, k + 3, none⟩ = some (.string (BA s)) ∧ wd.cell? ⟨b, k + 4, none⟩ = some (.string (BA n))) := fun wd hb => ⟨(hb.cell (p := ⟨b, k + 3, none⟩) hlt).trans l3, (hb.cell (p := ⟨b, k + 4, none⟩) hlt).trans l4⟩
  clear l1 l2 l5 l6 h hn1 hn2 hpk
  generalize BA s = t at *
  generalize BA n = t' at *
  go_enter Tryz.func56, Tryz.ntmps56
  go_wp2_with fail
  refine HO.out.mono ?_
  rintro e w1 ⟨rfl, hb1⟩
  obtain ⟨j3, j4⟩ := HC.out _ hb1
  have HB := qh9 hb1
  clear hb1 l0 l3 l4
  go_wp2_with fail
  refine (hP.out _).mono ?_
  rintro e w2 ⟨rfl, rfl⟩
  go_wp2_with fail
  refine (hN.out _).mono ?_
  rintro e w2 ⟨rfl, rfl⟩
  go_wp2
  go_ret
  exact ⟨rfl, HB.out⟩
 | cons a d iha ihd =>
  intro b k p w S hwf hS h
  obtain ⟨x0, x1, x2, x3, x4, x5, e, l0, l1, l2, l3, l4, l5, l6⟩ := h.cells
  obtain ⟨b', o', c', pa, pd, rfl, hc, hA, hD⟩ := h.2.2.parts
  have hlt : b < w.heap.size := hS b h.1.1
  rw [cellsO_f] at e
  simp only [List.cons.injEq, and_true] at e
  obtain ⟨rfl, rfl, rfl, rfl, rfl, rfl⟩ := e
  have CA : Hid (∀ wd, Below w.heap.size w wd → Calls Tryz.prog 56 #[.pointer (some ⟨b', o', none⟩)] wd (RetB wd true)) := fun wd hb => iha b' o' pa wd S hwf.1 (hS.later hb.size) (hA.below hS hb)
  have CD : Hid (∀ wd, Below w.heap.size w wd → Calls Tryz.prog 56 #[.pointer (some ⟨b', o' + 7, none⟩)] wd (RetB wd true)) := fun wd hb => ihd b' (o' + 7) pd wd S hwf.2 (hS.later hb.size) (hD.below hS hb)
  change w.cell? ⟨b, k, none⟩ = some (.int .i64 4) at l0
  have HO := qh9 (hasOnlyP b k w 4 ⟨#[]⟩ ⟨#[]⟩ ⟨#[]⟩ ⟨#[]⟩ ⟨#[]⟩ (some ⟨b', o', none⟩) 2 c' l0 l1 l2 l3 l4 l5 l6)
  have HC : Hid (∀ wd, Below w.heap.size w wd → wd.cell? ⟨b, k + 6, none⟩ = some (.slice (some ⟨b', o', none⟩) 2 c')) := fun wd hb => (hb.cell (p := ⟨b, k + 6, none⟩) hlt).trans l6
  clear l1 l2 l3 l4 l5 h hwf iha ihd hA hD
  go_enter Tryz.func56, Tryz.ntmps56
  go_wp2_with fail
  refine HO.out.mono ?_
  rintro e w1 ⟨rfl, hb1⟩
  have j6 := HC.out _ hb1
  have HB := qh9 hb1
  clear hb1 l0 l6
  go_wp2_with fail
  refine (CA.out _ HB.out).mono ?_
  rintro e w2 ⟨rfl, hb2⟩
  have HB2 := qc9 HB hb2
  have j7 := HC.out _ HB2.out
  clear hb2 j6
  go_wp2_with fail
  refine (CD.out _ HB2.out).mono ?_
  rintro e w3 ⟨rfl, hb3⟩
  have HB3 := qc9 HB2 hb3
  clear hb3 j7
  go_wp2
  go_ret
  exact ⟨rfl, HB3.out⟩

set_option maxHeartbeats 1000000 in
set_option maxRecDepth 100000 in
theorem validP (a : Ob) (p : Value) (w : World) (S : Nat → Prop) (hwf : a.bd 90) (hn : a.nodes ≤ 3000) (hS : In S w) (h : Pair w S a p) :
 Calls Tryz.prog 38 #[vO a p] w (RetB w true) := by
 obtain ⟨x0, x1, x2, x3, x4, x5, e⟩ := cells7 a p
 have hb : Below w.heap.size w (w.alloc (.cells #[x0, x1, x2, x3, x4, x5, p] 27)) := Below.alloc (Below.refl _ _) (Nat.le_refl _) _
 have hg := heap_alloc_new w (.cells #[x0, x1, x2, x3, x4, x5, p] 27)
 have hA : At (w.alloc (.cells #[x0, x1, x2, x3, x4, x5, p] 27)) (fun b => S b ∨ b = w.heap.size) a w.heap.size 0 p := by
  refine ⟨⟨.inr rfl, _, _, hg⟩, fun j u hj => ?_, (h.below hS hb).more fun _ h => .inl h⟩
  rw [Nat.zero_add, cell_of_row _ _ _ _ _ _ hg, ← hj, e]
  simp
 have hS' : In (fun b => S b ∨ b = w.heap.size) (w.alloc (.cells #[x0, x1, x2, x3, x4, x5, p] 27)) := fun b hb => by
  rcases hb with hb | rfl
  · have := hS b hb; simp; omega
  · simp
 have N := nodesP a p _ S (hS.later hb.size) (h.below hS hb) hn
 unfold vO at N
 rw [e] at N
 replace N := qh9 N
 have V : Hid (∀ wd, Below (w.heap.size + 1) (w.alloc (.cells #[x0, x1, x2, x3, x4, x5, p] 27)) wd → Calls Tryz.prog 56 #[.pointer (some ⟨w.heap.size, 0, none⟩)] wd (RetB wd true)) := fun wd hb' =>
  wellP a w.heap.size 0 p wd _ hwf (hS'.later hb'.size) (hA.below (B := w.heap.size + 1) (fun b hb => by have := hS' b hb; simpa using this) hb')
 unfold vO
 rw [e]
 have hz : (w.alloc (.cells #[x0, x1, x2, x3, x4, x5, p] 27)).heap.size = w.heap.size + 1 := by simp
 have hnn : (a.nodes : Int) ≤ 3000 := by omega
 clear e hA hS' h hS hg hwf
 go_enter Tryz.func38, Tryz.ntmps38
 go_wp2_with fail
 refine N.out.mono ?_
 rintro e w1 ⟨rfl, hb1⟩
 rw [hz] at hb1
 have V1 := qh9 (V.out _ hb1)
 have HB := qh9 (hb.trans (hb1.mono (by omega)))
 clear hb1 hb V N hz
 go_wp2_with fail
 refine V1.out.mono ?_
 rintro e w2 ⟨rfl, hb2⟩
 have HB2 := qh9 (HB.out.trans (hb2.mono HB.out.size))
 clear hb2
 go_wp2
 go_ret
 exact ⟨rfl, HB2.out⟩
set_option maxHeartbeats 1000000 in
set_option maxRecDepth 100000 in
theorem isIntegerRawR (k : Int) (s1 s2 s3 s4 s5 : ByteArray) (p : Value) (w : World) :
 Calls Tryz.prog 30 #[.agg #[.int .i64 k, .string s1, .string s2, .string s3, .string s4, .string s5, p]] w (RetB w (k == 1 && (s2.toList == [49]))) := by
 cases h1 : (k == 1) with
 | false =>
  go_enter Tryz.func30, Tryz.ntmps30
  go_wp2
  go_ret
  exact ⟨rfl, Below.alloc (Below.refl _ _) (Nat.le_refl _) _⟩
 | true =>
  cases h2 : (s2.toList == [49]) with
  | false =>
   go_enter Tryz.func30, Tryz.ntmps30
   go_wp2
   go_ret
   exact ⟨rfl, Below.alloc (Below.refl _ _) (Nat.le_refl _) _⟩
  | true =>
   go_enter Tryz.func30, Tryz.ntmps30
   go_wp2
   go_ret
   exact ⟨rfl, Below.alloc (Below.refl _ _) (Nat.le_refl _) _⟩

theorem isIntegerR (o : Ob) (p : Value) (w : World) : Calls Tryz.prog 30 #[vO o p] w (RetB w o.isInt) := by
 obtain ⟨k, s1, s2, s3, s4, s5, e, _, e2⟩ := cells_flat o p
 have e3 : o.isInt = (k == 1 && (s2.toList == [49])) := by rw [e2]; cases o <;> rfl
 unfold vO
 rw [e, e3]
 exact isIntegerRawR k s1 s2 s3 s4 s5 p w





mutual
def Rw.cnt : Rw → Nat
 | .mk _ _ _ l => 1 + Rw.cnts l
def Rw.cnts : List Rw → Nat
 | [] => 0
 | r :: rs => r.cnt + Rw.cnts rs
end
mutual
def Rw.ok : Rw → Prop
 | .mk _ _ s l => s.size ≤ 12 ∧ l.length ≤ 6 ∧ Rw.oks l
def Rw.oks : List Rw → Prop
 | [] => True
 | r :: rs => r.ok ∧ Rw.oks rs
end
mutual
theorem leftV_ok : ∀ (r : Rw) (m : Int), 0 ≤ leftV r m → r.ok ∧ leftV r m = m - r.cnt
 | .mk k n s l, m, h => by
  unfold leftV at h ⊢
  split at h
  · omega
  · rename_i hs
    rw [if_neg hs]
    have h1 := leftL_ok l (m - 1) h
    unfold Rw.ok Rw.cnt
    refine ⟨⟨by omega, by omega, h1.1⟩, ?_⟩
    rw [h1.2]
    omega
theorem leftL_ok : ∀ (l : List Rw) (m : Int), 0 ≤ leftL l m → Rw.oks l ∧ leftL l m = m - Rw.cnts l
 | [], m, h => by unfold leftL Rw.oks Rw.cnts; exact ⟨trivial, by omega⟩
 | r :: rs, m, h => by
  unfold leftL at h ⊢
  by_cases h0 : 0 ≤ m
  · rw [if_pos h0] at h ⊢
    have h2 := leftL_ok rs (leftV r m) h
    have h3 : 0 ≤ leftV r m := by have := h2.2; omega
    have h1 := leftV_ok r m h3
    unfold Rw.oks Rw.cnts
    refine ⟨⟨h1.1, h2.1⟩, ?_⟩
    rw [h2.2, h1.2]
    omega
  · rw [if_neg h0] at h
    omega
end
theorem few_ok {r : Rw} {m : Int} (h : few r m = true) : r.ok ∧ (r.cnt : Int) ≤ m := by
 have h0 : 0 ≤ leftV r m := of_decide_eq_true h
 have h1 := leftV_ok r m h0
 exact ⟨h1.1, by omega⟩
theorem Rw.cnt_pos : ∀ r : Rw, 1 ≤ r.cnt
 | .mk _ _ _ _ => by unfold Rw.cnt; omega
theorem Rw.oks_mem : ∀ {l : List Rw}, Rw.oks l → ∀ r ∈ l, r.ok
 | r :: rs, h, x, hx => by
  unfold Rw.oks at h
  rcases List.mem_cons.1 hx with rfl | hx
  · exact h.1
  · exact Rw.oks_mem h.2 x hx
def NoB (b : Nat) : Prop := False
theorem NoB.in (w : World) : In NoB w := fun _ h => h.elim
def OkO (m : Nat) (o : Ob) : Prop := o.bd 10 ∧ o.nodes ≤ m
def RetX (w : World) (m : Nat) (e : Ending) (w' : World) : Prop := ∃ o p, e = .returned (vO o p) ∧ Pair w' (Upto w w' NoB) o p ∧ Below w.heap.size w w' ∧ OkO m o
theorem RetO.x {w w' : World} {o : Ob} {e : Ending} {m : Nat} (h : RetO w NoB o e w') (hm : OkO m o) : RetX w m e w' := by
 obtain ⟨p, h1, h2, h3⟩ := h
 exact ⟨o, p, h1, h2, h3, hm⟩

structure MkW (w W : World) (raw : Array Value) : Prop where
 bel : Below w.heap.size w W
 b0 : W.heap[w.heap.size]? = some (.cells raw 49 (0, 0))
 b1 : W.heap[w.heap.size + 1]? = some (.cells #[.int .i64 0, .string ⟨#[]⟩, .string ⟨#[]⟩, .string ⟨#[]⟩, .string ⟨#[]⟩, .string ⟨#[]⟩, .slice none 0 0] 27 (0, 0))
 sz : W.heap.size = w.heap.size + 2
theorem MkW.new (w : World) (raw : Array Value) : MkW w ((w.alloc (.cells raw 49)).alloc (.cells #[.int .i64 0, .string ⟨#[]⟩, .string ⟨#[]⟩, .string ⟨#[]⟩, .string ⟨#[]⟩, .string ⟨#[]⟩, .slice none 0 0] 27)) raw :=
 ⟨Below.alloc (Below.alloc (Below.refl _ _) (Nat.le_refl _) _) (by simp) _, heap_alloc2_old w _ _, heap_alloc2_new w _ _, by simp⟩
theorem MkW.cell {w W : World} {raw : Array Value} (h : MkW w W raw) (i : Nat) : W.cell? ⟨w.heap.size, i, none⟩ = raw[i]? := cell_of_row _ _ _ _ _ _ h.b0

theorem retX {fn : Func} {q : Tmp} {w0 : World} {S' : Nat → Prop} {tmps : Array Value} {w : World} {g m : Nat} {o : Ob} {p : Value} {t : TypeId} {old : Array Value} {fr : Nat × Nat}
 (h : fn.results = #[.cell q 27]) (hq : tmps.getD q undef = .pointer (some ⟨g, 0, none⟩)) (hg : w.heap[g]? = some (.cells old t fr))
 (hp : Pair w S' o p) (hn : ¬ S' g) (hS : ∀ b, S' b → Upto w0 w NoB b) (hlt : w0.heap.size ≤ g) (hb : Below w0.heap.size w0 w) (hm : OkO m o) :
 bodyPost Tryz.prog fn (RetX w0 m) Exit.ret ⟨tmps, []⟩ (w.setRow g (cellsO o p).toArray) :=
 retO h hq (setRow_heap _ _ _ _ _ _ hg) (by simp [cellsO_length]) ⟨o, p, rfl, (hp.setRow g hn _).more (fun b hb => by
  have := hS b hb
  unfold Upto at this ⊢
  rwa [size_setRow]), below_setRowO hb hlt _, hm⟩

theorem bd_small {n : Int} (h0 : -2000 ≤ n) (h1 : n ≤ 2000) : Bd 10 (n : Rat) := (bd_int (k := 4) (by omega) (by decide)).more (by decide)

set_option maxHeartbeats 4000000 in
set_option maxRecDepth 100000 in
theorem objInt (k n : Int) (s : ByteArray) (A : Option Addr) (L c : Nat) (w : World) (m : Nat) (hm : 1 ≤ m) (hq : k % 8 = 0 ∨ k % 8 = 1) (hk : I64 k) (hn : I64 n) (ht : Tab w) :
 Calls Tryz.prog 27 #[.agg #[.int .i64 k, .int .i64 n, .string s, .slice A L c]] w (RetX w m) := by
 have HT := qh9 ht
 have HK := qh9 hk
 have HN := qh9 hn
 have HQ := qh9 hq
 clear ht hk hn hq
 go_enter Tryz.func27, Tryz.ntmps27
 go_wp2_with fail
 have M := MkW.new w #[.int .i64 k, .int .i64 n, .string s, .slice A L c]
 refine (modO k 8 _ HK.out.1 HK.out.2 (by decide) (by decide)).mono ?_
 rintro e w1 ⟨rfl, rfl⟩
 generalize (w.alloc (.cells #[.int .i64 k, .int .i64 n, .string s, .slice A L c] 49)).alloc (.cells #[.int .i64 0, .string ⟨#[]⟩, .string ⟨#[]⟩, .string ⟨#[]⟩, .string ⟨#[]⟩, .string ⟨#[]⟩, .slice none 0 0] 27) = W at M ⊢
 have c1 : W.cell? ⟨w.heap.size, 1, none⟩ = some (.int .i64 n) := M.cell 1
 have HM := qh9 M
 clear M
 have hq := HQ.out
 clear HQ
 generalize k % 8 = q at hq ⊢
 have j0 := Int.emod_nonneg n (show (2001 : Int) ≠ 0 by decide)
 have j1 := Int.emod_lt_of_pos n (show (0 : Int) < 2001 by decide)
 have CM := qh9 (modO n 2001 W HN.out.1 HN.out.2 (by decide) (by decide))
 generalize n % 2001 = j at j0 j1 CM
 have CI : Hid (Calls Tryz.prog 10 #[.int .i64 (j - 1000)] W (RetO W NoB (.num ((j - 1000 : Int) : Rat)))) := intO (j - 1000) W NoB (NoB.in W) (i64_small (by omega)) (HT.out.below HM.out.bel)
 have OK : Hid (OkO m (.num ((j - 1000 : Int) : Rat))) := ⟨bd_small (by omega) (by omega), hm⟩
 generalize ((j - 1000 : Int) : Rat) = x at CI OK
 rcases hq with rfl | rfl
 all_goals
  go_wp2_with fail
  refine CM.out.mono ?_
  rintro e w1 ⟨rfl, rfl⟩
  go_wp2_with fail
  refine CI.out.mono ?_
  rintro e w2 ⟨p, rfl, hp, hb2⟩
  have hs2 := hb2.size
  have hsz := HM.out.sz
  have hg2 := qh9 ((hb2.block (w.heap.size + 1) (by omega)).trans HM.out.b1)
  have hbw := qh9 (HM.out.bel.trans (hb2.mono (by omega)))
  go_wp2_with (refine storeV (w1 := w2) rfl (.tmp 2) (.tmp 15) rfl (w.heap.size + 1) _ _ rfl rfl hp _ _ hg2.out rfl ?_)
  exact retX (q := 2) rfl rfl hg2.out hp (fun h => by
   rcases h with h | ⟨h, _⟩
   · exact h
   · omega) (fun b hb => by
   rcases hb with hb | ⟨h1, h2⟩
   · exact hb.elim
   · exact .inr ⟨by omega, h2⟩) (by omega) hbw.out OK.out
theorem MkW.below {w W W' : World} {raw : Array Value} (h : MkW w W raw) (hb : Below W.heap.size W W') : Below w.heap.size w W' ∧ W'.heap[w.heap.size]? = some (.cells raw 49 (0, 0)) ∧
 W'.heap[w.heap.size + 1]? = some (.cells #[.int .i64 0, .string ⟨#[]⟩, .string ⟨#[]⟩, .string ⟨#[]⟩, .string ⟨#[]⟩, .string ⟨#[]⟩, .slice none 0 0] 27 (0, 0)) := by
 have := h.sz
 exact ⟨h.bel.trans (hb.mono (by omega)), (hb.block _ (by omega)).trans h.b0, (hb.block _ (by omega)).trans h.b1⟩

set_option maxHeartbeats 4000000 in
set_option maxRecDepth 100000 in
theorem objText (k n : Int) (s : ByteArray) (A : Option Addr) (L c : Nat) (w : World) (m : Nat) (hm : 1 ≤ m) (hq : k % 8 = 4) (hk : I64 k) (hsz : s.size ≤ 40) :
 Calls Tryz.prog 27 #[.agg #[.int .i64 k, .int .i64 n, .string s, .slice A L c]] w (RetX w m) := by
 have HK := qh9 hk
 have HQ := qh9 hq
 have HSZ := qh9 hsz
 clear hk hq hsz
 go_enter Tryz.func27, Tryz.ntmps27
 go_wp2_with fail
 have M := MkW.new w #[.int .i64 k, .int .i64 n, .string s, .slice A L c]
 refine (modO k 8 _ HK.out.1 HK.out.2 (by decide) (by decide)).mono ?_
 rintro e w1 ⟨rfl, rfl⟩
 generalize (w.alloc (.cells #[.int .i64 k, .int .i64 n, .string s, .slice A L c] 49)).alloc (.cells #[.int .i64 0, .string ⟨#[]⟩, .string ⟨#[]⟩, .string ⟨#[]⟩, .string ⟨#[]⟩, .string ⟨#[]⟩, .slice none 0 0] 27) = W at M ⊢
 have c2 : W.cell? ⟨w.heap.size, 2, none⟩ = some (.string s) := M.cell 2
 have HM := qh9 M
 clear M
 have hq := HQ.out
 clear HQ
 generalize k % 8 = q at hq ⊢
 subst hq
 have OK : Hid (OkO m (.str (LA s))) := ⟨(show s.data.toList.length ≤ 2 * 10 + 20 from (by rw [Array.length_toList]; exact HSZ.out)), hm⟩
 go_wp2_with fail
 refine (textO s W NoB).mono ?_
 rintro e w2 ⟨p, rfl, hp, hb2⟩
 have hs2 := hb2.size
 have hsz := HM.out.sz
 have hg2 := qh9 ((hb2.block (w.heap.size + 1) (by omega)).trans HM.out.b1)
 have hbw := qh9 (HM.out.bel.trans (hb2.mono (by omega)))
 go_wp2_with (refine storeV (w1 := w2) rfl (.tmp 2) (.tmp 39) rfl (w.heap.size + 1) _ _ rfl rfl hp _ _ hg2.out rfl ?_)
 exact retX (q := 2) rfl rfl hg2.out hp (fun h => by
  rcases h with h | ⟨h, _⟩
  · exact h
  · omega) (fun b hb => by
  rcases hb with hb | ⟨h1, h2⟩
  · exact hb.elim
  · exact .inr ⟨by omega, h2⟩) (by omega) hbw.out OK.out

set_option maxHeartbeats 4000000 in
set_option maxRecDepth 100000 in
theorem objSym (k n : Int) (s : ByteArray) (A : Option Addr) (L c : Nat) (w : World) (m : Nat) (hm : 1 ≤ m) (hq : k % 8 = 3) (hk : I64 k) (hn : I64 n) :
 Calls Tryz.prog 27 #[.agg #[.int .i64 k, .int .i64 n, .string s, .slice A L c]] w (RetX w m) := by
 have HK := qh9 hk
 have HN := qh9 hn
 have HQ := qh9 hq
 clear hk hq hn
 go_enter Tryz.func27, Tryz.ntmps27
 go_wp2_with fail
 have M := MkW.new w #[.int .i64 k, .int .i64 n, .string s, .slice A L c]
 refine (modO k 8 _ HK.out.1 HK.out.2 (by decide) (by decide)).mono ?_
 rintro e w1 ⟨rfl, rfl⟩
 generalize (w.alloc (.cells #[.int .i64 k, .int .i64 n, .string s, .slice A L c] 49)).alloc (.cells #[.int .i64 0, .string ⟨#[]⟩, .string ⟨#[]⟩, .string ⟨#[]⟩, .string ⟨#[]⟩, .string ⟨#[]⟩, .slice none 0 0] 27) = W at M ⊢
 have c1 : W.cell? ⟨w.heap.size, 1, none⟩ = some (.int .i64 n) := M.cell 1
 have HM := qh9 M
 clear M
 have hq := HQ.out
 clear HQ
 generalize k % 8 = q at hq ⊢
 subst hq
 go_wp2_with fail
 refine (symMake n W HN.out.1 HN.out.2).mono ?_
 rintro e w1 ⟨a, b, rfl, hb1, hok⟩
 have hs1 := hb1.size
 have OK : Hid (OkO m (.sym (LA (BA a)) (LA (BA b)))) := ⟨(show SyOk (LA (BA a)) (LA (BA b)) from (by rw [LA_BA, LA_BA]; exact hok)), hm⟩
 have HB1 := qh9 hb1
 clear hb1 c1 hok
 go_wp2_with fail
 refine (symO (BA a) (BA b) w1 NoB).mono ?_
 rintro e w2 ⟨p, rfl, hp, hb2⟩
 have hs2 := hb2.size
 have hsz := HM.out.sz
 have hb12 := HB1.out.trans (hb2.mono hs1)
 have hg2 := qh9 ((hb12.block (w.heap.size + 1) (by omega)).trans HM.out.b1)
 have hbw := qh9 (HM.out.bel.trans (hb12.mono (by omega)))
 clear hb12
 go_wp2_with (refine storeV (w1 := w2) rfl (.tmp 2) (.tmp 34) rfl (w.heap.size + 1) _ _ rfl rfl hp _ _ hg2.out rfl ?_)
 exact retX (q := 2) rfl rfl hg2.out hp (fun h => by
  rcases h with h | ⟨h, _⟩
  · exact h
  · omega) (fun b hb => by
  rcases hb with hb | ⟨h1, h2⟩
  · exact hb.elim
  · exact .inr ⟨by omega, h2⟩) (by omega) hbw.out OK.out

theorem mkRetQ {w W : World} {m : Nat} {q : Rat} (hb : Below w.heap.size w W) {z0 z1 z2 z3 z4 z5 z6 : Value} (h1 : W.heap[w.heap.size + 1]? = some (.cells #[z0, z1, z2, z3, z4, z5, z6] 27 (0, 0))) (ok : OkO m (.num q)) {fn : Func} {r : Tmp} {tmps : Array Value}
 (h : fn.results = #[.cell r 27]) (hr : tmps.getD r undef = .pointer (some ⟨w.heap.size + 1, 0, none⟩)) :
 bodyPost Tryz.prog fn (RetX w m) Exit.ret ⟨tmps, []⟩ (((((((W.setCell ⟨w.heap.size + 1, 0, none⟩ (.int .i64 1)).setCell ⟨w.heap.size + 1, 1, none⟩ (.string (nt q))).setCell ⟨w.heap.size + 1, 2, none⟩ (.string (dt q))).setCell ⟨w.heap.size + 1, 3, none⟩ (.string ⟨#[]⟩)).setCell ⟨w.heap.size + 1, 4, none⟩ (.string ⟨#[]⟩)).setCell ⟨w.heap.size + 1, 5, none⟩ (.string ⟨#[]⟩)).setCell ⟨w.heap.size + 1, 6, none⟩ (.slice none 0 0)) := by
 rw [setRow7 h1 rfl]
 exact retX (S' := NoB) (o := .num q) (p := .slice none 0 0) h hr h1 rfl (fun h => h) (fun _ h => h.elim) (by omega) hb ok

set_option maxHeartbeats 8000000 in
set_option maxRecDepth 100000 in
theorem objRat (k n : Int) (s : ByteArray) (A : Option Addr) (L c : Nat) (w : World) (m : Nat) (hm : 1 ≤ m) (hq : k % 8 = 2) (hk : I64 k) (hn : I64 n) (hs : s.size ≤ 12) (ht : Tab w) :
 Calls Tryz.prog 27 #[.agg #[.int .i64 k, .int .i64 n, .string s, .slice A L c]] w (RetX w m) := by
 have HT := qh9 ht
 have HK := qh9 hk
 have HN := qh9 hn
 have HQ := qh9 hq
 clear hk hq hn ht
 go_enter Tryz.func27, Tryz.ntmps27
 go_wp2_with fail
 have M := MkW.new w #[.int .i64 k, .int .i64 n, .string s, .slice A L c]
 refine (modO k 8 _ HK.out.1 HK.out.2 (by decide) (by decide)).mono ?_
 rintro e w1 ⟨rfl, rfl⟩
 generalize (w.alloc (.cells #[.int .i64 k, .int .i64 n, .string s, .slice A L c] 49)).alloc (.cells #[.int .i64 0, .string ⟨#[]⟩, .string ⟨#[]⟩, .string ⟨#[]⟩, .string ⟨#[]⟩, .string ⟨#[]⟩, .slice none 0 0] 27) = W at M ⊢
 have c1 : W.cell? ⟨w.heap.size, 1, none⟩ = some (.int .i64 n) := M.cell 1
 have c2 : W.cell? ⟨w.heap.size, 2, none⟩ = some (.string s) := M.cell 2
 have HM := qh9 M
 clear M
 have hq := HQ.out
 clear HQ
 generalize k % 8 = q at hq ⊢
 subst hq
 have j0 := Int.emod_nonneg n (show (41 : Int) ≠ 0 by decide)
 have j1 := Int.emod_lt_of_pos n (show (0 : Int) < 41 by decide)
 have CM : Hid (∀ W, Calls Tryz.prog 19 #[.int .i64 n, .int .i64 41] W fun e w' => e = .returned (.int .i64 (n % 41)) ∧ W = w') := fun W => modO n 41 W HN.out.1 HN.out.2 (by decide) (by decide)
 generalize n % 41 = j at j0 j1 CM
 obtain ⟨z, hz⟩ : ∃ z : Nat, s.size = z := ⟨_, rfl⟩
 have hz12 : z ≤ 12 := by omega
 have HB : Hid (∀ W', Below W.heap.size W W' → Tab W') := fun W' h => HT.out.below (HM.out.below h).1
 have CF1 : Hid (∀ W', Below W.heap.size W W' → Calls Tryz.prog 21 #[.int .i64 (j - 20)] W' (RetS W' (j - 20))) := fun W' h => fromIntR _ W' (i64_small (by omega)) (HB.out W' h)
 have CF2 : Hid (∀ W', Below W.heap.size W W' → Calls Tryz.prog 21 #[.int .i64 (1 + (s.size : Int))] W' (RetS W' (1 + (s.size : Int)))) := fun W' h => fromIntR _ W' (i64_small (by omega)) (HB.out W' h)
 have t1 : (BA (text (j - 20))).size ≤ 10 := by
  rw [BA_size]; exact Nat.le_trans (text_length (k := 4) (by omega)) (by omega)
 have t2 : (BA (text (1 + (s.size : Int)))).size ≤ 10 := by
  rw [BA_size]; exact Nat.le_trans (text_length (k := 4) (by omega)) (by omega)
 have CQ : Hid (∀ W', Calls Tryz.prog 20 #[.string (BA (text (j - 20))), .string (BA (text (1 + (s.size : Int))))] W' (RetN W' (quo (LA (BA (text (j - 20)))) (LA (BA (text (1 + (s.size : Int)))))))) := fun W' => ratRN _ _ W' (by omega) (by omega)
 have OK : Hid (OkO m (.num (quo (LA (BA (text (j - 20)))) (LA (BA (text (1 + (s.size : Int)))))))) := ⟨(bd_quo (k := 10) (by show (BA _).size ≤ 10; omega) (by show (BA _).size ≤ 10; omega) (by decide)), hm⟩
 generalize quo (LA (BA (text (j - 20)))) (LA (BA (text (1 + (s.size : Int))))) = x at CQ OK
 have HS := qh9 hs
 have HC : Hid (∀ W', Below W.heap.size W W' → W'.cell? ⟨w.heap.size, 1, none⟩ = some (.int .i64 n) ∧ W'.cell? ⟨w.heap.size, 2, none⟩ = some (.string s)) := fun W' h => ⟨by rw [cell_of_row _ _ _ _ _ _ (HM.out.below h).2.1]; rfl, by rw [cell_of_row _ _ _ _ _ _ (HM.out.below h).2.1]; rfl⟩
 have e1 : IntKind.i64.wrap (j - 20) = j - 20 := IntWalk.i64_in _ (by omega)
 have e2 : IntKind.i64.wrap (1 + (s.size : Int)) = 1 + (s.size : Int) := IntWalk.i64_in _ (by omega)
 clear t1 t2 hz hz12 hs j0 j1
 have hB0 : Below W.heap.size W W.drew := (Below.refl _ _).drew
 go_wp2_with fail
 go_region_held3 (fun W' => W'.cell? ⟨w.heap.size, 1, none⟩ = some (.int .i64 n) ∧ W'.cell? ⟨w.heap.size, 2, none⟩ = some (.string s))
  (go_keep)
  (first
    | (go_at_call 19; refine (CM.out _).mono ?_; rintro e w3 ⟨rfl, rfl⟩)
    | (go_at_call 21; (with_reducible refine (CF1.out _ ‹Below W.heap.size W _›).mono ?_); rintro e w3 ⟨rfl, hb3⟩; have hB3 := chain2 ‹Below W.heap.size W _› hb3 (Nat.le_refl _); clear hb3 c1 c2; obtain ⟨c1, c2⟩ := HC.out _ hB3)
    | (go_at_call 21; (with_reducible refine (CF2.out _ ‹Below W.heap.size W _›).mono ?_); rintro e w4 ⟨rfl, hb4⟩; have hB4 := chain2 ‹Below W.heap.size W _› hb4 (Nat.le_refl _); clear hb4 c1 c2; obtain ⟨c1, c2⟩ := HC.out _ hB4)
    | (go_at_call 20; refine (CQ.out _).mono ?_; rintro e w5 ⟨rfl, hb5⟩; have hB5 := chain2 ‹Below W.heap.size W _› hb5 (Nat.le_refl _); clear hb5 c1 c2; obtain ⟨c1, c2⟩ := HC.out _ hB5; have hg5 := (HM.out.below hB5).2.2; obtain ⟨⟨z0, z1, z2, z3, z4, z5, z6⟩, hz0⟩ := row7 hg5; clear hg5; unfold vQ))
 all_goals go_wp2
 all_goals exact mkRetQ (HM.out.below ‹Below W.heap.size W _›).1 (HM.out.below ‹Below W.heap.size W _›).2.2 OK.out rfl rfl
end Go.Proofs.YtbffnoodpoagcaaGreatDoor
