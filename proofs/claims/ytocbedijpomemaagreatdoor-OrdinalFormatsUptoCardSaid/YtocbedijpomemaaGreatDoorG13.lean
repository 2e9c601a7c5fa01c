import Derived.Test.YtocbedijpomemaaGreatDoorAl
import Derived.Test.YtocbedijpomemaaGreatDoorG12
import Derived.StillTailTactics
namespace Go.Proofs.YtocbedijpomemaaGreatDoor
open Go Go.RowKit
set_option linter.unusedVariables false
set_option maxHeartbeats 32000000
set_option maxRecDepth 100000
theorem cmpR_str (s t : List UInt8) (w : World) :
 Calls Tryz.prog 105 #[.agg #[.int .i64 3, .string ⟨#[]⟩, .string ⟨#[]⟩, .string ⟨#[]⟩, .string ⟨#[]⟩, .string (BA s), .slice none 0 0], .agg #[.int .i64 3, .string ⟨#[]⟩, .string ⟨#[]⟩, .string ⟨#[]⟩, .string ⟨#[]⟩, .string (BA t), .slice none 0 0]] w (RetI w (ordB s t)) := by
 have R1 : Hid (∀ wd, Calls Tryz.prog 128 #[.agg #[.int .i64 3, .string ⟨#[]⟩, .string ⟨#[]⟩, .string ⟨#[]⟩, .string ⟨#[]⟩, .string (BA s), .slice none 0 0]] wd (RetI wd 2)) := fun wd => rankR (.str s) (.slice none 0 0) wd
 have R2 : Hid (∀ wd, Calls Tryz.prog 128 #[.agg #[.int .i64 3, .string ⟨#[]⟩, .string ⟨#[]⟩, .string ⟨#[]⟩, .string ⟨#[]⟩, .string (BA t), .slice none 0 0]] wd (RetI wd 2)) := fun wd => rankR (.str t) (.slice none 0 0) wd
 have CB : Hid (∀ wd, Calls Tryz.prog 130 #[.string (BA s), .string (BA t)] wd fun e w' => e = .returned (.int .i64 (ordB s t)) ∧ wd = w') := fun wd => by
  have h := bytesR (BA s) (BA t) wd; rw [LA_BA, LA_BA] at h; exact h
 generalize BA s = bs at R1 R2 CB ⊢
 generalize BA t = bt at R1 R2 CB ⊢
 go_enter Tryz.func105, Tryz.ntmps105
 go_wp2_with fail
 have T0 := BoxB.new w #[.int .i64 3, .string ⟨#[]⟩, .string ⟨#[]⟩, .string ⟨#[]⟩, .string ⟨#[]⟩, .string bs, .slice none 0 0] #[.int .i64 3, .string ⟨#[]⟩, .string ⟨#[]⟩, .string ⟨#[]⟩, .string ⟨#[]⟩, .string bt, .slice none 0 0]
 generalize (w.alloc (.cells #[.int .i64 3, .string ⟨#[]⟩, .string ⟨#[]⟩, .string ⟨#[]⟩, .string ⟨#[]⟩, .string bs, .slice none 0 0] 35)).alloc (.cells #[.int .i64 3, .string ⟨#[]⟩, .string ⟨#[]⟩, .string ⟨#[]⟩, .string ⟨#[]⟩, .string bt, .slice none 0 0] 35) = W at T0 ⊢
 have hB0 : Below W.heap.size W W.drew := (Below.refl _ _).drew
 obtain ⟨⟨c0, c1, c2, c3, c4, c5, c6⟩, _⟩ := row7 T0.b0
 obtain ⟨⟨d0, d1, d2, d3, d4, d5, d6⟩, _⟩ := row7 T0.b1
 have HT0 := qh9 T0
 clear T0
 go_region_held3 (fun W' => (W'.cell? ⟨w.heap.size, 0, none⟩ = some (.int .i64 3) ∧ W'.cell? ⟨w.heap.size, 1, none⟩ = some (.string ⟨#[]⟩) ∧ W'.cell? ⟨w.heap.size, 2, none⟩ = some (.string ⟨#[]⟩) ∧ W'.cell? ⟨w.heap.size, 3, none⟩ = some (.string ⟨#[]⟩) ∧ W'.cell? ⟨w.heap.size, 4, none⟩ = some (.string ⟨#[]⟩) ∧ W'.cell? ⟨w.heap.size, 5, none⟩ = some (.string bs) ∧ W'.cell? ⟨w.heap.size, 6, none⟩ = some (.slice none 0 0)) ∧ (W'.cell? ⟨w.heap.size + 1, 0, none⟩ = some (.int .i64 3) ∧ W'.cell? ⟨w.heap.size + 1, 1, none⟩ = some (.string ⟨#[]⟩) ∧ W'.cell? ⟨w.heap.size + 1, 2, none⟩ = some (.string ⟨#[]⟩) ∧ W'.cell? ⟨w.heap.size + 1, 3, none⟩ = some (.string ⟨#[]⟩) ∧ W'.cell? ⟨w.heap.size + 1, 4, none⟩ = some (.string ⟨#[]⟩) ∧ W'.cell? ⟨w.heap.size + 1, 5, none⟩ = some (.string bt) ∧ W'.cell? ⟨w.heap.size + 1, 6, none⟩ = some (.slice none 0 0))) (first | exact ⟨(row7 (HT0.out.below ‹Below W.heap.size W _›).b0).1, (row7 (HT0.out.below ‹Below W.heap.size W _›).b1).1⟩ | go_keep)
  (first
   | (go_at_call_of 128 (Value.agg #[.int .i64 3, .string ⟨#[]⟩, .string ⟨#[]⟩, .string ⟨#[]⟩, .string ⟨#[]⟩, .string bs, .slice none 0 0]); refine (R1.out _).mono ?_; rintro e w3 ⟨rfl, hb3⟩; have hB3 := chain2 ‹Below W.heap.size W _› hb3 (Nat.le_refl _); clear hb3)
   | (go_at_call_of 128 (Value.agg #[.int .i64 3, .string ⟨#[]⟩, .string ⟨#[]⟩, .string ⟨#[]⟩, .string ⟨#[]⟩, .string bt, .slice none 0 0]); refine (R2.out _).mono ?_; rintro e w4 ⟨rfl, hb4⟩; have hB4 := chain2 ‹Below W.heap.size W _› hb4 (Nat.le_refl _); clear hb4))
 clear c0 c1 c2 c3 c4 c5 c6 d0 d1 d2 d3 d4 d5 d6
 obtain ⟨⟨c0, c1, c2, c3, c4, c5, c6⟩, _⟩ := row7 (HT0.out.below ‹Below W.heap.size W w4›).b0
 obtain ⟨⟨d0, d1, d2, d3, d4, d5, d6⟩, _⟩ := row7 (HT0.out.below ‹Below W.heap.size W w4›).b1
 go_wp2_with fail
 refine (R1.out _).mono ?_
 rintro e w5 ⟨rfl, hb5⟩
 have hB5 := chain2 ‹Below W.heap.size W w4› hb5 (Nat.le_refl _)
 clear hb5 c0 c1 c2 c3 c4 c5 c6 d0 d1 d2 d3 d4 d5 d6
 obtain ⟨⟨c0, c1, c2, c3, c4, c5, c6⟩, _⟩ := row7 (HT0.out.below ‹Below W.heap.size W w5›).b0
 obtain ⟨⟨d0, d1, d2, d3, d4, d5, d6⟩, _⟩ := row7 (HT0.out.below ‹Below W.heap.size W w5›).b1
 go_wp2_with fail
 refine (CB.out _).mono ?_
 rintro e w6 ⟨rfl, rfl⟩
 go_wp2
 go_ret
 exact ⟨rfl, (HT0.out.below ‹Below W.heap.size W w5›).bel⟩
theorem cmpR_sym (s n t m : List UInt8) (w : World) :
 Calls Tryz.prog 105 #[.agg #[.int .i64 2, .string ⟨#[]⟩, .string ⟨#[]⟩, .string (BA s), .string (BA n), .string ⟨#[]⟩, .slice none 0 0], .agg #[.int .i64 2, .string ⟨#[]⟩, .string ⟨#[]⟩, .string (BA t), .string (BA m), .string ⟨#[]⟩, .slice none 0 0]] w (RetI w (ordS s n t m)) := by
 have R1 : Hid (∀ wd, Calls Tryz.prog 128 #[.agg #[.int .i64 2, .string ⟨#[]⟩, .string ⟨#[]⟩, .string (BA s), .string (BA n), .string ⟨#[]⟩, .slice none 0 0]] wd (RetI wd 3)) := fun wd => rankR (.sym s n) (.slice none 0 0) wd
 have R2 : Hid (∀ wd, Calls Tryz.prog 128 #[.agg #[.int .i64 2, .string ⟨#[]⟩, .string ⟨#[]⟩, .string (BA t), .string (BA m), .string ⟨#[]⟩, .slice none 0 0]] wd (RetI wd 3)) := fun wd => rankR (.sym t m) (.slice none 0 0) wd
 have CB : Hid (∀ wd, Calls Tryz.prog 131 #[.agg #[.string (BA s), .string (BA n)], .agg #[.string (BA t), .string (BA m)]] wd (RetI wd (ordS s n t m))) := fun wd => by
  have h := cmpSymR (BA s) (BA n) (BA t) (BA m) wd; rw [LA_BA, LA_BA, LA_BA, LA_BA] at h; exact h
 generalize BA s = bs at R1 R2 CB ⊢
 generalize BA t = bt at R1 R2 CB ⊢
 generalize BA n = bn at R1 R2 CB ⊢
 generalize BA m = bm at R1 R2 CB ⊢
 go_enter Tryz.func105, Tryz.ntmps105
 go_wp2_with fail
 have T0 := BoxB.new w #[.int .i64 2, .string ⟨#[]⟩, .string ⟨#[]⟩, .string bs, .string bn, .string ⟨#[]⟩, .slice none 0 0] #[.int .i64 2, .string ⟨#[]⟩, .string ⟨#[]⟩, .string bt, .string bm, .string ⟨#[]⟩, .slice none 0 0]
 generalize (w.alloc (.cells #[.int .i64 2, .string ⟨#[]⟩, .string ⟨#[]⟩, .string bs, .string bn, .string ⟨#[]⟩, .slice none 0 0] 35)).alloc (.cells #[.int .i64 2, .string ⟨#[]⟩, .string ⟨#[]⟩, .string bt, .string bm, .string ⟨#[]⟩, .slice none 0 0] 35) = W at T0 ⊢
 have hB0 : Below W.heap.size W W.drew := (Below.refl _ _).drew
 obtain ⟨⟨c0, c1, c2, c3, c4, c5, c6⟩, _⟩ := row7 T0.b0
 obtain ⟨⟨d0, d1, d2, d3, d4, d5, d6⟩, _⟩ := row7 T0.b1
 have HT0 := qh9 T0
 clear T0
 go_region_held3 (fun W' => (W'.cell? ⟨w.heap.size, 0, none⟩ = some (.int .i64 2) ∧ W'.cell? ⟨w.heap.size, 1, none⟩ = some (.string ⟨#[]⟩) ∧ W'.cell? ⟨w.heap.size, 2, none⟩ = some (.string ⟨#[]⟩) ∧ W'.cell? ⟨w.heap.size, 3, none⟩ = some (.string bs) ∧ W'.cell? ⟨w.heap.size, 4, none⟩ = some (.string bn) ∧ W'.cell? ⟨w.heap.size, 5, none⟩ = some (.string ⟨#[]⟩) ∧ W'.cell? ⟨w.heap.size, 6, none⟩ = some (.slice none 0 0)) ∧ (W'.cell? ⟨w.heap.size + 1, 0, none⟩ = some (.int .i64 2) ∧ W'.cell? ⟨w.heap.size + 1, 1, none⟩ = some (.string ⟨#[]⟩) ∧ W'.cell? ⟨w.heap.size + 1, 2, none⟩ = some (.string ⟨#[]⟩) ∧ W'.cell? ⟨w.heap.size + 1, 3, none⟩ = some (.string bt) ∧ W'.cell? ⟨w.heap.size + 1, 4, none⟩ = some (.string bm) ∧ W'.cell? ⟨w.heap.size + 1, 5, none⟩ = some (.string ⟨#[]⟩) ∧ W'.cell? ⟨w.heap.size + 1, 6, none⟩ = some (.slice none 0 0))) (first | exact ⟨(row7 (HT0.out.below ‹Below W.heap.size W _›).b0).1, (row7 (HT0.out.below ‹Below W.heap.size W _›).b1).1⟩ | go_keep)
  (first
   | (go_at_call_of 128 (Value.agg #[.int .i64 2, .string ⟨#[]⟩, .string ⟨#[]⟩, .string bs, .string bn, .string ⟨#[]⟩, .slice none 0 0]); refine (R1.out _).mono ?_; rintro e w3 ⟨rfl, hb3⟩; have hB3 := chain2 ‹Below W.heap.size W _› hb3 (Nat.le_refl _); clear hb3)
   | (go_at_call_of 128 (Value.agg #[.int .i64 2, .string ⟨#[]⟩, .string ⟨#[]⟩, .string bt, .string bm, .string ⟨#[]⟩, .slice none 0 0]); refine (R2.out _).mono ?_; rintro e w4 ⟨rfl, hb4⟩; have hB4 := chain2 ‹Below W.heap.size W _› hb4 (Nat.le_refl _); clear hb4))
 clear c0 c1 c2 c3 c4 c5 c6 d0 d1 d2 d3 d4 d5 d6
 obtain ⟨⟨c0, c1, c2, c3, c4, c5, c6⟩, _⟩ := row7 (HT0.out.below ‹Below W.heap.size W w4›).b0
 obtain ⟨⟨d0, d1, d2, d3, d4, d5, d6⟩, _⟩ := row7 (HT0.out.below ‹Below W.heap.size W w4›).b1
 go_wp2_with fail
 refine (R1.out _).mono ?_
 rintro e w5 ⟨rfl, hb5⟩
 have hB5 := chain2 ‹Below W.heap.size W w4› hb5 (Nat.le_refl _)
 clear hb5 c0 c1 c2 c3 c4 c5 c6 d0 d1 d2 d3 d4 d5 d6
 obtain ⟨⟨c0, c1, c2, c3, c4, c5, c6⟩, _⟩ := row7 (HT0.out.below ‹Below W.heap.size W w5›).b0
 obtain ⟨⟨d0, d1, d2, d3, d4, d5, d6⟩, _⟩ := row7 (HT0.out.below ‹Below W.heap.size W w5›).b1
 go_wp2_with fail
 refine (CB.out _).mono ?_
 rintro e w6 ⟨rfl, hb6⟩
 have hB6 := chain2 hB5 hb6 (Nat.le_refl _)
 clear hb6
 go_wp2
 go_ret
 exact ⟨rfl, (HT0.out.below ‹Below W.heap.size W w6›).bel⟩
theorem cmpR_num (d : Nat) (hd : d ≤ 1000) (x y : Rat) (hx : Bd d x) (hy : Bd d y) (w : World) :
 Calls Tryz.prog 105 #[.agg #[.int .i64 1, .string (nt x), .string (dt x), .string ⟨#[]⟩, .string ⟨#[]⟩, .string ⟨#[]⟩, .slice none 0 0], .agg #[.int .i64 1, .string (nt y), .string (dt y), .string ⟨#[]⟩, .string ⟨#[]⟩, .string ⟨#[]⟩, .slice none 0 0]] w (RetI w (ordQ x y)) := by
 have R1 : Hid (∀ wd, Calls Tryz.prog 128 #[.agg #[.int .i64 1, .string (nt x), .string (dt x), .string ⟨#[]⟩, .string ⟨#[]⟩, .string ⟨#[]⟩, .slice none 0 0]] wd (RetI wd 1)) := fun wd => rankR (.num x) (.slice none 0 0) wd
 have R2 : Hid (∀ wd, Calls Tryz.prog 128 #[.agg #[.int .i64 1, .string (nt y), .string (dt y), .string ⟨#[]⟩, .string ⟨#[]⟩, .string ⟨#[]⟩, .slice none 0 0]] wd (RetI wd 1)) := fun wd => rankR (.num y) (.slice none 0 0) wd
 have b1 := bd_nt hx
 have b2 := bd_dt hx
 have b3 := bd_nt hy
 have b4 := bd_dt hy
 have s1 : (BA (text (val (LA (nt x)) * val (LA (dt y))))).size ≤ 3000 := by
  rw [val_nt, val_dt, BA_size]
  refine Nat.le_trans (text_length (k := d + d) ?_) (by omega)
  rw [Int.natAbs_mul]
  exact lt_pow_mul hx.1 hy.2
 have s2 : (BA (text (val (LA (nt y)) * val (LA (dt x))))).size ≤ 3000 := by
  rw [val_nt, val_dt, BA_size]
  refine Nat.le_trans (text_length (k := d + d) ?_) (by omega)
  rw [Int.natAbs_mul]
  exact lt_pow_mul hy.1 hx.2
 have CB : Hid (∀ wd, Calls Tryz.prog 129 #[.string (BA (text (val (LA (nt x)) * val (LA (dt y))))), .string (BA (text (val (LA (nt y)) * val (LA (dt x)))))] wd (RetI wd (ordQ x y))) := fun wd => by
  have h := compareR (BA (text (val (LA (nt x)) * val (LA (dt y))))) (BA (text (val (LA (nt y)) * val (LA (dt x))))) wd (by omega) (by omega)
  rw [LA_BA, LA_BA, val_text, val_text] at h
  have e : ordI (val (LA (nt x)) * val (LA (dt y))) (val (LA (nt y)) * val (LA (dt x))) = ordQ x y := by rw [val_nt, val_dt, val_nt, val_dt, ordQ_eq]
  rw [e] at h
  exact h
 clear hx hy s1 s2
 generalize ordQ x y = r at CB ⊢
 generalize nt x = nx at b1 R1 CB ⊢
 generalize dt x = dx at b2 R1 CB ⊢
 generalize nt y = ny at b3 R2 CB ⊢
 generalize dt y = dy at b4 R2 CB ⊢
 go_enter Tryz.func105, Tryz.ntmps105
 go_wp2_with fail
 have T0 := BoxB.new w #[.int .i64 1, .string nx, .string dx, .string ⟨#[]⟩, .string ⟨#[]⟩, .string ⟨#[]⟩, .slice none 0 0] #[.int .i64 1, .string ny, .string dy, .string ⟨#[]⟩, .string ⟨#[]⟩, .string ⟨#[]⟩, .slice none 0 0]
 generalize (w.alloc (.cells #[.int .i64 1, .string nx, .string dx, .string ⟨#[]⟩, .string ⟨#[]⟩, .string ⟨#[]⟩, .slice none 0 0] 35)).alloc (.cells #[.int .i64 1, .string ny, .string dy, .string ⟨#[]⟩, .string ⟨#[]⟩, .string ⟨#[]⟩, .slice none 0 0] 35) = W at T0 ⊢
 have hB0 : Below W.heap.size W W.drew := (Below.refl _ _).drew
 obtain ⟨⟨c0, c1, c2, c3, c4, c5, c6⟩, _⟩ := row7 T0.b0
 obtain ⟨⟨d0, d1, d2, d3, d4, d5, d6⟩, _⟩ := row7 T0.b1
 have HT0 := qh9 T0
 clear T0
 go_region_held3 (fun W' => (W'.cell? ⟨w.heap.size, 0, none⟩ = some (.int .i64 1) ∧ W'.cell? ⟨w.heap.size, 1, none⟩ = some (.string nx) ∧ W'.cell? ⟨w.heap.size, 2, none⟩ = some (.string dx) ∧ W'.cell? ⟨w.heap.size, 3, none⟩ = some (.string ⟨#[]⟩) ∧ W'.cell? ⟨w.heap.size, 4, none⟩ = some (.string ⟨#[]⟩) ∧ W'.cell? ⟨w.heap.size, 5, none⟩ = some (.string ⟨#[]⟩) ∧ W'.cell? ⟨w.heap.size, 6, none⟩ = some (.slice none 0 0)) ∧ (W'.cell? ⟨w.heap.size + 1, 0, none⟩ = some (.int .i64 1) ∧ W'.cell? ⟨w.heap.size + 1, 1, none⟩ = some (.string ny) ∧ W'.cell? ⟨w.heap.size + 1, 2, none⟩ = some (.string dy) ∧ W'.cell? ⟨w.heap.size + 1, 3, none⟩ = some (.string ⟨#[]⟩) ∧ W'.cell? ⟨w.heap.size + 1, 4, none⟩ = some (.string ⟨#[]⟩) ∧ W'.cell? ⟨w.heap.size + 1, 5, none⟩ = some (.string ⟨#[]⟩) ∧ W'.cell? ⟨w.heap.size + 1, 6, none⟩ = some (.slice none 0 0))) (first | exact ⟨(row7 (HT0.out.below ‹Below W.heap.size W _›).b0).1, (row7 (HT0.out.below ‹Below W.heap.size W _›).b1).1⟩ | go_keep)
  (first
   | (go_at_call_of 128 (Value.agg #[.int .i64 1, .string nx, .string dx, .string ⟨#[]⟩, .string ⟨#[]⟩, .string ⟨#[]⟩, .slice none 0 0]); refine (R1.out _).mono ?_; rintro e w3 ⟨rfl, hb3⟩; have hB3 := chain2 ‹Below W.heap.size W _› hb3 (Nat.le_refl _); clear hb3)
   | (go_at_call_of 128 (Value.agg #[.int .i64 1, .string ny, .string dy, .string ⟨#[]⟩, .string ⟨#[]⟩, .string ⟨#[]⟩, .slice none 0 0]); refine (R2.out _).mono ?_; rintro e w4 ⟨rfl, hb4⟩; have hB4 := chain2 ‹Below W.heap.size W _› hb4 (Nat.le_refl _); clear hb4))
 clear c0 c1 c2 c3 c4 c5 c6 d0 d1 d2 d3 d4 d5 d6
 obtain ⟨⟨c0, c1, c2, c3, c4, c5, c6⟩, _⟩ := row7 (HT0.out.below ‹Below W.heap.size W w4›).b0
 obtain ⟨⟨d0, d1, d2, d3, d4, d5, d6⟩, _⟩ := row7 (HT0.out.below ‹Below W.heap.size W w4›).b1
 go_wp2_with fail
 refine (R1.out _).mono ?_
 rintro e w5 ⟨rfl, hb5⟩
 have hB5 := chain2 ‹Below W.heap.size W w4› hb5 (Nat.le_refl _)
 clear hb5 c0 c1 c2 c3 c4 c5 c6 d0 d1 d2 d3 d4 d5 d6
 obtain ⟨⟨c0, c1, c2, c3, c4, c5, c6⟩, _⟩ := row7 (HT0.out.below ‹Below W.heap.size W w5›).b0
 obtain ⟨⟨d0, d1, d2, d3, d4, d5, d6⟩, _⟩ := row7 (HT0.out.below ‹Below W.heap.size W w5›).b1
 go_wp2_with fail
 have hB6 : Below W.heap.size W w5.drew := (‹Below W.heap.size W w5› : Below W.heap.size W w5).drew
 go_region_held3 (fun W' => W'.cell? ⟨w.heap.size, 1, none⟩ = some (.string nx) ∧ W'.cell? ⟨w.heap.size, 2, none⟩ = some (.string dx) ∧ W'.cell? ⟨w.heap.size + 1, 1, none⟩ = some (.string ny) ∧ W'.cell? ⟨w.heap.size + 1, 2, none⟩ = some (.string dy)) (first | exact ⟨(row7 (HT0.out.below ‹Below W.heap.size W _›).b0).1.2.1, (row7 (HT0.out.below ‹Below W.heap.size W _›).b0).1.2.2.1, (row7 (HT0.out.below ‹Below W.heap.size W _›).b1).1.2.1, (row7 (HT0.out.below ‹Below W.heap.size W _›).b1).1.2.2.1⟩ | go_keep)
  (first
   | (go_at_call 81; refine (multiplyR _ _ _ (by omega) (by omega)).mono ?_; rintro e w6 ⟨rfl, hb6⟩; have hB7 := chain2 ‹Below W.heap.size W _› hb6 (Nat.le_refl _); clear hb6)
   | (go_at_call 129; refine (CB.out _).mono ?_; rintro e w7 ⟨rfl, hb7⟩; have hB8 := chain2 ‹Below W.heap.size W _› hb7 (Nat.le_refl _); clear hb7))
 go_wp2
 go_ret
 exact ⟨rfl, (HT0.out.below ‹Below W.heap.size W w7›).bel⟩
theorem isCons4 (A : Option Addr) (c : Nat) (w : World) : Calls Tryz.prog 64 #[.agg #[.int .i64 4, .string ⟨#[]⟩, .string ⟨#[]⟩, .string ⟨#[]⟩, .string ⟨#[]⟩, .string ⟨#[]⟩, .slice A 2 c]] w (RetB w true) := by
 go_enter Tryz.func64, Tryz.ntmps64
 go_wp2
 go_ret
 exact ⟨rfl, Below.alloc (Below.refl _ _) (Nat.le_refl _) _⟩
theorem cmpR_cons (b o c b' o' c' : Nat) (x0 x1 x2 x3 x4 x5 x6 y0 y1 y2 y3 y4 y5 y6 z0 z1 z2 z3 z4 z5 z6 t0 t1 t2 t3 t4 t5 t6 : Value) (r0 r1 : Int) (hc : 2 ≤ c) (hc' : 2 ≤ c')  (w : World)
 (hbl : b < w.heap.size) (hbl' : b' < w.heap.size)
 (hx : ∀ j u, #[x0, x1, x2, x3, x4, x5, x6, y0, y1, y2, y3, y4, y5, y6][j]? = some u → w.cell? ⟨b, o + j, none⟩ = some u)
 (hz : ∀ j u, #[z0, z1, z2, z3, z4, z5, z6, t0, t1, t2, t3, t4, t5, t6][j]? = some u → w.cell? ⟨b', o' + j, none⟩ = some u)
 (ih0 : ∀ w', Below w.heap.size w w' → Calls Tryz.prog 105 #[.agg #[x0, x1, x2, x3, x4, x5, x6], .agg #[z0, z1, z2, z3, z4, z5, z6]] w' (RetI w' r0))
 (ih1 : ∀ w', Below w.heap.size w w' → Calls Tryz.prog 105 #[.agg #[y0, y1, y2, y3, y4, y5, y6], .agg #[t0, t1, t2, t3, t4, t5, t6]] w' (RetI w' r1)) :
 Calls Tryz.prog 105 #[.agg #[.int .i64 4, .string ⟨#[]⟩, .string ⟨#[]⟩, .string ⟨#[]⟩, .string ⟨#[]⟩, .string ⟨#[]⟩, .slice (some ⟨b, o, none⟩) 2 c], .agg #[.int .i64 4, .string ⟨#[]⟩, .string ⟨#[]⟩, .string ⟨#[]⟩, .string ⟨#[]⟩, .string ⟨#[]⟩, .slice (some ⟨b', o', none⟩) 2 c']] w (RetI w (next r0 r1)) := by
 have R1 : Hid (∀ wd, Calls Tryz.prog 128 #[.agg #[.int .i64 4, .string ⟨#[]⟩, .string ⟨#[]⟩, .string ⟨#[]⟩, .string ⟨#[]⟩, .string ⟨#[]⟩, .slice (some ⟨b, o, none⟩) 2 c]] wd (RetI wd 4)) := fun wd => rankR (.cons .nil .nil) (.slice (some ⟨b, o, none⟩) 2 c) wd
 have R2 : Hid (∀ wd, Calls Tryz.prog 128 #[.agg #[.int .i64 4, .string ⟨#[]⟩, .string ⟨#[]⟩, .string ⟨#[]⟩, .string ⟨#[]⟩, .string ⟨#[]⟩, .slice (some ⟨b', o', none⟩) 2 c']] wd (RetI wd 4)) := fun wd => rankR (.cons .nil .nil) (.slice (some ⟨b', o', none⟩) 2 c') wd
 have IC1 := fun wd => isCons4 (some ⟨b, o, none⟩) c wd
 have IC2 := fun wd => isCons4 (some ⟨b', o', none⟩) c' wd
 replace IC1 := qh9 IC1
 replace IC2 := qh9 IC2
 have HX := qh9 hx
 have HZ := qh9 hz
 have I0 := qh9 ih0
 have I1 := qh9 ih1
 clear hx hz ih0 ih1
 go_enter Tryz.func105, Tryz.ntmps105
 go_wp2_with fail
 have T0 := BoxB.new w #[.int .i64 4, .string ⟨#[]⟩, .string ⟨#[]⟩, .string ⟨#[]⟩, .string ⟨#[]⟩, .string ⟨#[]⟩, .slice (some ⟨b, o, none⟩) 2 c] #[.int .i64 4, .string ⟨#[]⟩, .string ⟨#[]⟩, .string ⟨#[]⟩, .string ⟨#[]⟩, .string ⟨#[]⟩, .slice (some ⟨b', o', none⟩) 2 c']
 generalize (w.alloc (.cells #[.int .i64 4, .string ⟨#[]⟩, .string ⟨#[]⟩, .string ⟨#[]⟩, .string ⟨#[]⟩, .string ⟨#[]⟩, .slice (some ⟨b, o, none⟩) 2 c] 35)).alloc (.cells #[.int .i64 4, .string ⟨#[]⟩, .string ⟨#[]⟩, .string ⟨#[]⟩, .string ⟨#[]⟩, .string ⟨#[]⟩, .slice (some ⟨b', o', none⟩) 2 c'] 35) = W at T0 ⊢
 have hB0 : Below W.heap.size W W.drew := (Below.refl _ _).drew
 obtain ⟨⟨c0, c1, c2, c3, c4, c5, c6⟩, _⟩ := row7 T0.b0
 obtain ⟨⟨d0, d1, d2, d3, d4, d5, d6⟩, _⟩ := row7 T0.b1
 have HT0 := qh9 T0
 clear T0
 go_region_held3 (fun W' => (W'.cell? ⟨w.heap.size, 0, none⟩ = some (.int .i64 4) ∧ W'.cell? ⟨w.heap.size, 1, none⟩ = some (.string ⟨#[]⟩) ∧ W'.cell? ⟨w.heap.size, 2, none⟩ = some (.string ⟨#[]⟩) ∧ W'.cell? ⟨w.heap.size, 3, none⟩ = some (.string ⟨#[]⟩) ∧ W'.cell? ⟨w.heap.size, 4, none⟩ = some (.string ⟨#[]⟩) ∧ W'.cell? ⟨w.heap.size, 5, none⟩ = some (.string ⟨#[]⟩) ∧ W'.cell? ⟨w.heap.size, 6, none⟩ = some (.slice (some ⟨b, o, none⟩) 2 c)) ∧ (W'.cell? ⟨w.heap.size + 1, 0, none⟩ = some (.int .i64 4) ∧ W'.cell? ⟨w.heap.size + 1, 1, none⟩ = some (.string ⟨#[]⟩) ∧ W'.cell? ⟨w.heap.size + 1, 2, none⟩ = some (.string ⟨#[]⟩) ∧ W'.cell? ⟨w.heap.size + 1, 3, none⟩ = some (.string ⟨#[]⟩) ∧ W'.cell? ⟨w.heap.size + 1, 4, none⟩ = some (.string ⟨#[]⟩) ∧ W'.cell? ⟨w.heap.size + 1, 5, none⟩ = some (.string ⟨#[]⟩) ∧ W'.cell? ⟨w.heap.size + 1, 6, none⟩ = some (.slice (some ⟨b', o', none⟩) 2 c'))) (first | exact ⟨(row7 (HT0.out.below ‹Below W.heap.size W _›).b0).1, (row7 (HT0.out.below ‹Below W.heap.size W _›).b1).1⟩ | go_keep)
  (first
   | (go_at_call_of 128 (Value.agg #[.int .i64 4, .string ⟨#[]⟩, .string ⟨#[]⟩, .string ⟨#[]⟩, .string ⟨#[]⟩, .string ⟨#[]⟩, .slice (some ⟨b, o, none⟩) 2 c]); refine (R1.out _).mono ?_; rintro e w3 ⟨rfl, hb3⟩; have hB3 := chain2 ‹Below W.heap.size W _› hb3 (Nat.le_refl _); clear hb3)
   | (go_at_call_of 128 (Value.agg #[.int .i64 4, .string ⟨#[]⟩, .string ⟨#[]⟩, .string ⟨#[]⟩, .string ⟨#[]⟩, .string ⟨#[]⟩, .slice (some ⟨b', o', none⟩) 2 c']); refine (R2.out _).mono ?_; rintro e w4 ⟨rfl, hb4⟩; have hB4 := chain2 ‹Below W.heap.size W _› hb4 (Nat.le_refl _); clear hb4))
 clear c0 c1 c2 c3 c4 c5 c6 d0 d1 d2 d3 d4 d5 d6
 obtain ⟨⟨c0, c1, c2, c3, c4, c5, c6⟩, _⟩ := row7 (HT0.out.below ‹Below W.heap.size W w4›).b0
 obtain ⟨⟨d0, d1, d2, d3, d4, d5, d6⟩, _⟩ := row7 (HT0.out.below ‹Below W.heap.size W w4›).b1
 go_wp2_with fail
 refine (R1.out _).mono ?_
 rintro e w5 ⟨rfl, hb5⟩
 have hB5 := chain2 ‹Below W.heap.size W w4› hb5 (Nat.le_refl _)
 clear hb5 c0 c1 c2 c3 c4 c5 c6 d0 d1 d2 d3 d4 d5 d6
 obtain ⟨⟨c0, c1, c2, c3, c4, c5, c6⟩, _⟩ := row7 (HT0.out.below ‹Below W.heap.size W w5›).b0
 obtain ⟨⟨d0, d1, d2, d3, d4, d5, d6⟩, _⟩ := row7 (HT0.out.below ‹Below W.heap.size W w5›).b1
 go_wp2_with fail
 refine (IC1.out _).mono ?_
 rintro e w6 ⟨rfl, hb6⟩
 have hB6 := chain2 hB5 hb6 (Nat.le_refl _)
 clear hb6 c0 c1 c2 c3 c4 c5 c6 d0 d1 d2 d3 d4 d5 d6
 obtain ⟨⟨c0, c1, c2, c3, c4, c5, c6⟩, _⟩ := row7 (HT0.out.below hB6).b0
 obtain ⟨⟨d0, d1, d2, d3, d4, d5, d6⟩, _⟩ := row7 (HT0.out.below hB6).b1
 go_wp2_with fail
 refine (IC2.out _).mono ?_
 rintro e w7 ⟨rfl, hb7⟩
 have hB7 := chain2 hB6 hb7 (Nat.le_refl _)
 clear hb7 c0 c1 c2 c3 c4 c5 c6 d0 d1 d2 d3 d4 d5 d6
 obtain ⟨⟨c0, c1, c2, c3, c4, c5, c6⟩, _⟩ := row7 (HT0.out.below hB7).b0
 obtain ⟨⟨d0, d1, d2, d3, d4, d5, d6⟩, _⟩ := row7 (HT0.out.below hB7).b1
 have hq := (HT0.out.below hB7).bel
 have k0 := (hq.cell (p := ⟨b, o + 0, none⟩) hbl).trans (HX.out 0 _ rfl)
 have k1 := (hq.cell (p := ⟨b, o + 1, none⟩) hbl).trans (HX.out 1 _ rfl)
 have k2 := (hq.cell (p := ⟨b, o + 2, none⟩) hbl).trans (HX.out 2 _ rfl)
 have k3 := (hq.cell (p := ⟨b, o + 3, none⟩) hbl).trans (HX.out 3 _ rfl)
 have k4 := (hq.cell (p := ⟨b, o + 4, none⟩) hbl).trans (HX.out 4 _ rfl)
 have k5 := (hq.cell (p := ⟨b, o + 5, none⟩) hbl).trans (HX.out 5 _ rfl)
 have k6 := (hq.cell (p := ⟨b, o + 6, none⟩) hbl).trans (HX.out 6 _ rfl)
 have m0 := (hq.cell (p := ⟨b', o' + 0, none⟩) hbl').trans (HZ.out 0 _ rfl)
 have m1 := (hq.cell (p := ⟨b', o' + 1, none⟩) hbl').trans (HZ.out 1 _ rfl)
 have m2 := (hq.cell (p := ⟨b', o' + 2, none⟩) hbl').trans (HZ.out 2 _ rfl)
 have m3 := (hq.cell (p := ⟨b', o' + 3, none⟩) hbl').trans (HZ.out 3 _ rfl)
 have m4 := (hq.cell (p := ⟨b', o' + 4, none⟩) hbl').trans (HZ.out 4 _ rfl)
 have m5 := (hq.cell (p := ⟨b', o' + 5, none⟩) hbl').trans (HZ.out 5 _ rfl)
 have m6 := (hq.cell (p := ⟨b', o' + 6, none⟩) hbl').trans (HZ.out 6 _ rfl)
 rw [Nat.add_zero] at k0 m0
 have HB7 := qh9 hB7
 clear hB0 hB5 hB6 hq
 go_wp2_with fail
 go_still_tail 8, (by kernel_rfl)
 change wpList _ _ _ _ _ w7.drew
 have hB8 : Hid (Below W.heap.size W w7.drew) := HB7.out.drew
 clear HB7 hB7 c0 c1 c2 c3 c4 c5 c6 d0 d1 d2 d3 d4 d5 d6 k0 k1 k2 k3 k4 k5 k6 m0 m1 m2 m3 m4 m5 m6
 generalize w7.drew = w8 at hB8 ⊢
 go_wp2_with fail
 refine (I0.out _ (HT0.out.below hB8.out).bel).mono ?_
 rintro e w9 ⟨rfl, hb9⟩
 have hB9 := qc9 hB8 hb9
 clear hb9 hB8
 by_cases h0 : r0 = 0
 · have hn : (r0 != 0) = false := by rw [h0]; rfl
   have hr : Hid (r1 = next r0 r1) := by show _ = _; unfold next; rw [if_pos h0]
   clear h0
   obtain ⟨⟨c0, c1, c2, c3, c4, c5, c6⟩, _⟩ := row7 (HT0.out.below hB9.out).b0
   obtain ⟨⟨d0, d1, d2, d3, d4, d5, d6⟩, _⟩ := row7 (HT0.out.below hB9.out).b1
   have hq := (HT0.out.below hB9.out).bel
   have k0 := (hq.cell (p := ⟨b, o + 7, none⟩) hbl).trans (HX.out 7 _ rfl)
   have k1 := (hq.cell (p := ⟨b, o + 8, none⟩) hbl).trans (HX.out 8 _ rfl)
   have k2 := (hq.cell (p := ⟨b, o + 9, none⟩) hbl).trans (HX.out 9 _ rfl)
   have k3 := (hq.cell (p := ⟨b, o + 10, none⟩) hbl).trans (HX.out 10 _ rfl)
   have k4 := (hq.cell (p := ⟨b, o + 11, none⟩) hbl).trans (HX.out 11 _ rfl)
   have k5 := (hq.cell (p := ⟨b, o + 12, none⟩) hbl).trans (HX.out 12 _ rfl)
   have k6 := (hq.cell (p := ⟨b, o + 13, none⟩) hbl).trans (HX.out 13 _ rfl)
   have m0 := (hq.cell (p := ⟨b', o' + 7, none⟩) hbl').trans (HZ.out 7 _ rfl)
   have m1 := (hq.cell (p := ⟨b', o' + 8, none⟩) hbl').trans (HZ.out 8 _ rfl)
   have m2 := (hq.cell (p := ⟨b', o' + 9, none⟩) hbl').trans (HZ.out 9 _ rfl)
   have m3 := (hq.cell (p := ⟨b', o' + 10, none⟩) hbl').trans (HZ.out 10 _ rfl)
   have m4 := (hq.cell (p := ⟨b', o' + 11, none⟩) hbl').trans (HZ.out 11 _ rfl)
   have m5 := (hq.cell (p := ⟨b', o' + 12, none⟩) hbl').trans (HZ.out 12 _ rfl)
   have m6 := (hq.cell (p := ⟨b', o' + 13, none⟩) hbl').trans (HZ.out 13 _ rfl)
   clear hq
   go_wp2_with fail
   go_still_tail 8, (by kernel_rfl)
   change wpList _ _ _ _ _ w9.drew
   have hB10 : Hid (Below W.heap.size W w9.drew) := hB9.out.drew
   clear hB9 c0 c1 c2 c3 c4 c5 c6 d0 d1 d2 d3 d4 d5 d6 k0 k1 k2 k3 k4 k5 k6 m0 m1 m2 m3 m4 m5 m6
   generalize w9.drew = w10 at hB10 ⊢
   go_wp2_with fail
   refine (I1.out _ (HT0.out.below hB10.out).bel).mono ?_
   rintro e w11 ⟨rfl, hb11⟩
   have hB11 := qc9 hB10 hb11
   clear hb11 hB10
   go_wp2
   go_ret
   exact ⟨ret_int hr.out, (HT0.out.below hB11.out).bel⟩
 · have hn : (r0 != 0) = true := by rw [bne_iff_ne]; exact h0
   have hr : Hid (r0 = next r0 r1) := by show _ = _; unfold next; rw [if_neg h0]
   clear h0
   go_wp2
   go_ret
   exact ⟨ret_int hr.out, (HT0.out.below hB9.out).bel⟩
theorem compareO (d : Nat) (hd : d ≤ 1000) : ∀ (a a' : Ob) (p p' : Value) (w : World) (S : Nat → Prop), In S w → Pair w S a p → Pair w S a' p' → a.bd d → a'.bd d →
 Calls Tryz.prog 105 #[vO a p, vO a' p'] w (RetI w (ordO a a')) := by
 intro a
 induction a with
 | num x =>
  intro a' p p' w S hS h h' hb hb'
  cases a' with
  | num y =>
   obtain rfl := h.flat rfl
   obtain rfl := h'.flat rfl
   exact cmpR_num d hd x y hb hb' w
  | _ => exact cmpR_ne _ _ _ _ w (by simp [Ob.rank])
 | str s =>
  intro a' p p' w S hS h h' hb hb'
  cases a' with
  | str t =>
   obtain rfl := h.flat rfl
   obtain rfl := h'.flat rfl
   exact cmpR_str s t w
  | _ => exact cmpR_ne _ _ _ _ w (by simp [Ob.rank])
 | sym s n =>
  intro a' p p' w S hS h h' hb hb'
  cases a' with
  | sym t m =>
   obtain rfl := h.flat rfl
   obtain rfl := h'.flat rfl
   exact cmpR_sym s n t m w
  | _ => exact cmpR_ne _ _ _ _ w (by simp [Ob.rank])
 | cons a e iha ihe =>
  intro a' p p' w S hS h h' hb hb'
  cases a' with
  | cons a2 e2 =>
   obtain ⟨g, o, c, qa, qd, rfl, hc, hg, hx, h1, h2⟩ := h
   obtain ⟨g', o', c', qa', qd', rfl, hc', hg', hx', h1', h2'⟩ := h'
   have k1 := fun w' (hw : Below w.heap.size w w') => iha a2 qa qa' w' S (hS.later hw.size) (h1.below hS hw) (h1'.below hS hw) hb.1 hb'.1
   have k2 := fun w' (hw : Below w.heap.size w w') => ihe e2 qd qd' w' S (hS.later hw.size) (h2.below hS hw) (h2'.below hS hw) hb.2 hb'.2
   unfold vO at k1 k2
   obtain ⟨x0, x1, x2, x3, x4, x5, ea⟩ := cells7 a qa
   obtain ⟨y0, y1, y2, y3, y4, y5, ed⟩ := cells7 e qd
   obtain ⟨z0, z1, z2, z3, z4, z5, ea'⟩ := cells7 a2 qa'
   obtain ⟨t0, t1, t2, t3, t4, t5, ed'⟩ := cells7 e2 qd'
   rw [ea, ed] at hx
   rw [ea', ed'] at hx'
   rw [ea, ea'] at k1
   rw [ed, ed'] at k2
   exact cmpR_cons g o c g' o' c' x0 x1 x2 x3 x4 x5 qa y0 y1 y2 y3 y4 y5 qd z0 z1 z2 z3 z4 z5 qa' t0 t1 t2 t3 t4 t5 qd' _ _ hc hc' w (hS g hg.1) (hS g' hg'.1)
    (fun j u h => hx j u (by simpa using h)) (fun j u h => hx' j u (by simpa using h)) k1 k2
  | _ => exact cmpR_ne _ _ _ _ w (by simp [Ob.rank])
theorem lessR (d : Nat) (hd : d ≤ 1000) (a a' : Ob) (p p' : Value) (w : World) (S : Nat → Prop) (hp : Pair w S a p) (hp' : Pair w S a' p') (hb : Bd d a.fix) (hb' : Bd d a'.fix) (ht : Tab w) :
 Calls Tryz.prog 82 #[vO a p, vO a' p'] w (RetB w (decide (ordQ a.fix a'.fix < 0))) := by
 have HT := qh9 ht
 have A1 : Hid (∀ wd, Tab wd → Calls Tryz.prog 79 #[vO a p] wd (RetN wd a.fix)) := fun wd h => fixR a p wd (fun q e => by subst e; exact hp) h
 have A2 : Hid (∀ wd, Tab wd → Calls Tryz.prog 79 #[vO a' p'] wd (RetN wd a'.fix)) := fun wd h => fixR a' p' wd (fun q e => by subst e; exact hp') h
 have CN : Hid (∀ wd, Calls Tryz.prog 105 #[vQ a.fix, vQ a'.fix] wd (RetI wd (ordQ a.fix a'.fix))) := fun wd => compareO d hd (.num a.fix) (.num a'.fix) (.slice none 0 0) (.slice none 0 0) wd (fun _ => False) (fun _ h => h.elim) rfl rfl hb hb'
 clear ht hp hp' hb hb'
 generalize a.fix = x at A1 CN ⊢
 generalize a'.fix = y at A2 CN ⊢
 generalize ordQ x y = r at CN ⊢
 obtain ⟨x0, x1, x2, x3, x4, x5, e⟩ := cells7 a p
 obtain ⟨y0, y1, y2, y3, y4, y5, e'⟩ := cells7 a' p'
 unfold vO at A1 A2
 rw [e] at A1
 rw [e'] at A2
 unfold vO
 rw [e, e']
 clear e e'
 go_enter Tryz.func82, Tryz.ntmps82
 go_wp2_with fail
 have T0 := BoxB.new w #[x0, x1, x2, x3, x4, x5, p] #[y0, y1, y2, y3, y4, y5, p']
 generalize (w.alloc (.cells #[x0, x1, x2, x3, x4, x5, p] 35)).alloc (.cells #[y0, y1, y2, y3, y4, y5, p'] 35) = W at T0 ⊢
 have hB0 : Below W.heap.size W W.drew := (Below.refl _ _).drew
 obtain ⟨⟨c0, c1, c2, c3, c4, c5, c6⟩, _⟩ := row7 T0.b0
 obtain ⟨⟨d0, d1, d2, d3, d4, d5, d6⟩, _⟩ := row7 T0.b1
 have HB : Hid (∀ W', Below W.heap.size W W' → Tab W') := fun W' h => HT.out.below (T0.below h).bel
 have HT0 := qh9 T0
 clear T0 HT
 go_region_held3 (fun W' => (W'.cell? ⟨w.heap.size, 0, none⟩ = some x0 ∧ W'.cell? ⟨w.heap.size, 1, none⟩ = some x1 ∧ W'.cell? ⟨w.heap.size, 2, none⟩ = some x2 ∧ W'.cell? ⟨w.heap.size, 3, none⟩ = some x3 ∧ W'.cell? ⟨w.heap.size, 4, none⟩ = some x4 ∧ W'.cell? ⟨w.heap.size, 5, none⟩ = some x5 ∧ W'.cell? ⟨w.heap.size, 6, none⟩ = some p) ∧
  (W'.cell? ⟨w.heap.size + 1, 0, none⟩ = some y0 ∧ W'.cell? ⟨w.heap.size + 1, 1, none⟩ = some y1 ∧ W'.cell? ⟨w.heap.size + 1, 2, none⟩ = some y2 ∧ W'.cell? ⟨w.heap.size + 1, 3, none⟩ = some y3 ∧ W'.cell? ⟨w.heap.size + 1, 4, none⟩ = some y4 ∧ W'.cell? ⟨w.heap.size + 1, 5, none⟩ = some y5 ∧ W'.cell? ⟨w.heap.size + 1, 6, none⟩ = some p')) (first | exact ⟨(row7 (HT0.out.below ‹Below W.heap.size W _›).b0).1, (row7 (HT0.out.below ‹Below W.heap.size W _›).b1).1⟩ | go_keep)
  (first
   | (go_at_call_of 79 (Value.agg #[x0, x1, x2, x3, x4, x5, p]); refine (A1.out _ (HB.out _ ‹Below W.heap.size W _›)).mono ?_; rintro e w3 ⟨rfl, hb3⟩; have hB3 := chain2 ‹Below W.heap.size W _› hb3 (Nat.le_refl _); clear hb3)
   | (go_at_call_of 79 (Value.agg #[y0, y1, y2, y3, y4, y5, p']); refine (A2.out _ (HB.out _ ‹Below W.heap.size W _›)).mono ?_; rintro e w4 ⟨rfl, hb4⟩; have hB4 := chain2 ‹Below W.heap.size W _› hb4 (Nat.le_refl _); clear hb4)
   | (go_at_call 105; refine (CN.out _).mono ?_; rintro e w5 ⟨rfl, hb5⟩; have hB5 := chain2 ‹Below W.heap.size W _› hb5 (Nat.le_refl _); clear hb5))
 all_goals go_wp2
 all_goals go_ret
 all_goals exact ⟨rfl, (HT0.out.below ‹Below W.heap.size W _›).bel⟩
mutual
def Rw.cnt : Rw → Nat
 | .mk _ _ _ l => 1 + Rw.cnts l
def Rw.cnts : List Rw → Nat
 | [] => 0
 | r :: rs => r.cnt + Rw.cnts rs
end
mutual
def Rw.ok : Rw → Prop
 | .mk _ _ s l => s.size ≤ 12 ∧ l.length ≤ 6 ∧ Rw.oks l
def Rw.oks : List Rw → Prop
 | [] => True
 | r :: rs => r.ok ∧ Rw.oks rs
end
mutual
theorem leftV_ok : ∀ (r : Rw) (m : Int), 0 ≤ leftV r m → r.ok ∧ leftV r m = m - r.cnt
 | .mk k n s l, m, h => by
  unfold leftV at h ⊢
  split at h
  · omega
  · rename_i hs
    rw [if_neg hs]
    have h1 := leftL_ok l (m - 1) h
    unfold Rw.ok Rw.cnt
    refine ⟨⟨by omega, by omega, h1.1⟩, ?_⟩
    rw [h1.2]
    omega
theorem leftL_ok : ∀ (l : List Rw) (m : Int), 0 ≤ leftL l m → Rw.oks l ∧ leftL l m = m - Rw.cnts l
 | [], m, h => by unfold leftL Rw.oks Rw.cnts; exact ⟨trivial, by omega⟩
 | r :: rs, m, h => by
  unfold leftL at h ⊢
  by_cases h0 : 0 ≤ m
  · rw [if_pos h0] at h ⊢
    have h2 := leftL_ok rs (leftV r m) h
    have h3 : 0 ≤ leftV r m := by have := h2.2; omega
    have h1 := leftV_ok r m h3
    unfold Rw.oks Rw.cnts
    refine ⟨⟨h1.1, h2.1⟩, ?_⟩
    rw [h2.2, h1.2]
    omega
  · rw [if_neg h0] at h
    omega
end
theorem few_ok {r : Rw} {m : Int} (h : few r m = true) : r.ok ∧ (r.cnt : Int) ≤ m := by
 have h0 : 0 ≤ leftV r m := of_decide_eq_true h
 have h1 := leftV_ok r m h0
 exact ⟨h1.1, by omega⟩
theorem Rw.cnt_pos : ∀ r : Rw, 1 ≤ r.cnt
 | .mk _ _ _ _ => by unfold Rw.cnt; omega
theorem Rw.oks_mem : ∀ {l : List Rw}, Rw.oks l → ∀ r ∈ l, r.ok
 | r :: rs, h, x, hx => by
  unfold Rw.oks at h
  rcases List.mem_cons.1 hx with rfl | hx
  · exact h.1
  · exact Rw.oks_mem h.2 x hx
def NoB (b : Nat) : Prop := False
theorem NoB.in (w : World) : In NoB w := fun _ h => h.elim
def OkO (m : Nat) (o : Ob) : Prop := o.bd 10 ∧ o.nodes ≤ m
def RetX (w : World) (m : Nat) (e : Ending) (w' : World) : Prop := ∃ o p, e = .returned (vO o p) ∧ Pair w' (Upto w w' NoB) o p ∧ Below w.heap.size w w' ∧ OkO m o
theorem RetO.x {w w' : World} {o : Ob} {e : Ending} {m : Nat} (h : RetO w NoB o e w') (hm : OkO m o) : RetX w m e w' := by
 obtain ⟨p, h1, h2, h3⟩ := h
 exact ⟨o, p, h1, h2, h3, hm⟩
structure MkW (w W : World) (raw : Array Value) : Prop where
 bel : Below w.heap.size w W
 b0 : W.heap[w.heap.size]? = some (.cells raw 27 (0, 0))
 b1 : W.heap[w.heap.size + 1]? = some (.cells #[.int .i64 0, .string ⟨#[]⟩, .string ⟨#[]⟩, .string ⟨#[]⟩, .string ⟨#[]⟩, .string ⟨#[]⟩, .slice none 0 0] 35 (0, 0))
 sz : W.heap.size = w.heap.size + 2
theorem MkW.new (w : World) (raw : Array Value) : MkW w ((w.alloc (.cells raw 27)).alloc (.cells #[.int .i64 0, .string ⟨#[]⟩, .string ⟨#[]⟩, .string ⟨#[]⟩, .string ⟨#[]⟩, .string ⟨#[]⟩, .slice none 0 0] 35)) raw :=
 ⟨Below.alloc (Below.alloc (Below.refl _ _) (Nat.le_refl _) _) (by simp) _, heap_alloc2_old w _ _, heap_alloc2_new w _ _, by simp⟩
theorem MkW.cell {w W : World} {raw : Array Value} (h : MkW w W raw) (i : Nat) : W.cell? ⟨w.heap.size, i, none⟩ = raw[i]? := cell_of_row _ _ _ _ _ _ h.b0
theorem retX {fn : Func} {q : Tmp} {w0 : World} {S' : Nat → Prop} {tmps : Array Value} {w : World} {g m : Nat} {o : Ob} {p : Value} {t : TypeId} {old : Array Value} {fr : Nat × Nat}
 (h : fn.results = #[.cell q 35]) (hq : tmps.getD q undef = .pointer (some ⟨g, 0, none⟩)) (hg : w.heap[g]? = some (.cells old t fr))
 (hp : Pair w S' o p) (hn : ¬ S' g) (hS : ∀ b, S' b → Upto w0 w NoB b) (hlt : w0.heap.size ≤ g) (hb : Below w0.heap.size w0 w) (hm : OkO m o) :
 bodyPost Tryz.prog fn (RetX w0 m) Exit.ret ⟨tmps, []⟩ (w.setRow g (cellsO o p).toArray) :=
 retO h hq (setRow_heap _ _ _ _ _ _ hg) (by simp [cellsO_length]) ⟨o, p, rfl, (hp.setRow g hn _).more (fun b hb => by
  have := hS b hb
  unfold Upto at this ⊢
  rwa [size_setRow]), below_setRowO hb hlt _, hm⟩

theorem bd_small {n : Int} (h0 : -2000 ≤ n) (h1 : n ≤ 2000) : Bd 10 (n : Rat) := (bd_int (k := 4) (by omega) (by decide)).more (by decide)

theorem objInt (k n : Int) (s : ByteArray) (A : Option Addr) (L c : Nat) (w : World) (m : Nat) (hm : 1 ≤ m) (hq : k % 8 = 0 ∨ k % 8 = 1) (hk : I64 k) (hn : I64 n) (ht : Tab w) :
 Calls Tryz.prog 7 #[.agg #[.int .i64 k, .int .i64 n, .string s, .slice A L c]] w (RetX w m) := by
 have HT := qh9 ht
 have HK := qh9 hk
 have HN := qh9 hn
 have HQ := qh9 hq
 clear ht hk hn hq
 go_enter Tryz.func7, Tryz.ntmps7
 go_wp2_with fail
 have M := MkW.new w #[.int .i64 k, .int .i64 n, .string s, .slice A L c]
 refine (modO k 8 _ HK.out.1 HK.out.2 (by decide) (by decide)).mono ?_
 rintro e w1 ⟨rfl, rfl⟩
 generalize (w.alloc (.cells #[.int .i64 k, .int .i64 n, .string s, .slice A L c] 27)).alloc (.cells #[.int .i64 0, .string ⟨#[]⟩, .string ⟨#[]⟩, .string ⟨#[]⟩, .string ⟨#[]⟩, .string ⟨#[]⟩, .slice none 0 0] 35) = W at M ⊢
 have c1 : W.cell? ⟨w.heap.size, 1, none⟩ = some (.int .i64 n) := M.cell 1
 have HM := qh9 M
 clear M
 have hq := HQ.out
 clear HQ
 generalize k % 8 = q at hq ⊢
 have j0 := Int.emod_nonneg n (show (2001 : Int) ≠ 0 by decide)
 have j1 := Int.emod_lt_of_pos n (show (0 : Int) < 2001 by decide)
 have CM := qh9 (modO n 2001 W HN.out.1 HN.out.2 (by decide) (by decide))
 generalize n % 2001 = j at j0 j1 CM
 have CI : Hid (Calls Tryz.prog 20 #[.int .i64 (j - 1000)] W (RetO W NoB (.num ((j - 1000 : Int) : Rat)))) := intO (j - 1000) W NoB (NoB.in W) (i64_small (by omega)) (HT.out.below HM.out.bel)
 have OK : Hid (OkO m (.num ((j - 1000 : Int) : Rat))) := ⟨bd_small (by omega) (by omega), hm⟩
 generalize ((j - 1000 : Int) : Rat) = x at CI OK
 rcases hq with rfl | rfl
 all_goals
  go_wp2_with fail
  refine CM.out.mono ?_
  rintro e w1 ⟨rfl, rfl⟩
  go_wp2_with fail
  refine CI.out.mono ?_
  rintro e w2 ⟨p, rfl, hp, hb2⟩
  have hs2 := hb2.size
  have hsz := HM.out.sz
  have hg2 := qh9 ((hb2.block (w.heap.size + 1) (by omega)).trans HM.out.b1)
  have hbw := qh9 (HM.out.bel.trans (hb2.mono (by omega)))
  go_wp2_with (refine storeV (w1 := w2) rfl (.tmp 2) (.tmp 15) rfl (w.heap.size + 1) _ _ rfl rfl hp _ _ hg2.out rfl ?_)
  exact retX (q := 2) rfl rfl hg2.out hp (fun h => by
   rcases h with h | ⟨h, _⟩
   · exact h
   · omega) (fun b hb => by
   rcases hb with hb | ⟨h1, h2⟩
   · exact hb.elim
   · exact .inr ⟨by omega, h2⟩) (by omega) hbw.out OK.out
theorem MkW.below {w W W' : World} {raw : Array Value} (h : MkW w W raw) (hb : Below W.heap.size W W') : Below w.heap.size w W' ∧ W'.heap[w.heap.size]? = some (.cells raw 27 (0, 0)) ∧
 W'.heap[w.heap.size + 1]? = some (.cells #[.int .i64 0, .string ⟨#[]⟩, .string ⟨#[]⟩, .string ⟨#[]⟩, .string ⟨#[]⟩, .string ⟨#[]⟩, .slice none 0 0] 35 (0, 0)) := by
 have := h.sz
 exact ⟨h.bel.trans (hb.mono (by omega)), (hb.block _ (by omega)).trans h.b0, (hb.block _ (by omega)).trans h.b1⟩

theorem objText (k n : Int) (s : ByteArray) (A : Option Addr) (L c : Nat) (w : World) (m : Nat) (hm : 1 ≤ m) (hq : k % 8 = 4) (hk : I64 k) (hsz : s.size ≤ 40) :
 Calls Tryz.prog 7 #[.agg #[.int .i64 k, .int .i64 n, .string s, .slice A L c]] w (RetX w m) := by
 have HK := qh9 hk
 have HQ := qh9 hq
 have HSZ := qh9 hsz
 clear hk hq hsz
 go_enter Tryz.func7, Tryz.ntmps7
 go_wp2_with fail
 have M := MkW.new w #[.int .i64 k, .int .i64 n, .string s, .slice A L c]
 refine (modO k 8 _ HK.out.1 HK.out.2 (by decide) (by decide)).mono ?_
 rintro e w1 ⟨rfl, rfl⟩
 generalize (w.alloc (.cells #[.int .i64 k, .int .i64 n, .string s, .slice A L c] 27)).alloc (.cells #[.int .i64 0, .string ⟨#[]⟩, .string ⟨#[]⟩, .string ⟨#[]⟩, .string ⟨#[]⟩, .string ⟨#[]⟩, .slice none 0 0] 35) = W at M ⊢
 have c2 : W.cell? ⟨w.heap.size, 2, none⟩ = some (.string s) := M.cell 2
 have HM := qh9 M
 clear M
 have hq := HQ.out
 clear HQ
 generalize k % 8 = q at hq ⊢
 subst hq
 have OK : Hid (OkO m (.str (LA s))) := ⟨(show s.data.toList.length ≤ 2 * 10 + 20 from (by rw [Array.length_toList]; exact HSZ.out)), hm⟩
 go_wp2_with fail
 refine (textO s W NoB).mono ?_
 rintro e w2 ⟨p, rfl, hp, hb2⟩
 have hs2 := hb2.size
 have hsz := HM.out.sz
 have hg2 := qh9 ((hb2.block (w.heap.size + 1) (by omega)).trans HM.out.b1)
 have hbw := qh9 (HM.out.bel.trans (hb2.mono (by omega)))
 go_wp2_with (refine storeV (w1 := w2) rfl (.tmp 2) (.tmp 39) rfl (w.heap.size + 1) _ _ rfl rfl hp _ _ hg2.out rfl ?_)
 exact retX (q := 2) rfl rfl hg2.out hp (fun h => by
  rcases h with h | ⟨h, _⟩
  · exact h
  · omega) (fun b hb => by
  rcases hb with hb | ⟨h1, h2⟩
  · exact hb.elim
  · exact .inr ⟨by omega, h2⟩) (by omega) hbw.out OK.out

theorem objSym (k n : Int) (s : ByteArray) (A : Option Addr) (L c : Nat) (w : World) (m : Nat) (hm : 1 ≤ m) (hq : k % 8 = 3) (hk : I64 k) (hn : I64 n) :
 Calls Tryz.prog 7 #[.agg #[.int .i64 k, .int .i64 n, .string s, .slice A L c]] w (RetX w m) := by
 have HK := qh9 hk
 have HN := qh9 hn
 have HQ := qh9 hq
 clear hk hq hn
 go_enter Tryz.func7, Tryz.ntmps7
 go_wp2_with fail
 have M := MkW.new w #[.int .i64 k, .int .i64 n, .string s, .slice A L c]
 refine (modO k 8 _ HK.out.1 HK.out.2 (by decide) (by decide)).mono ?_
 rintro e w1 ⟨rfl, rfl⟩
 generalize (w.alloc (.cells #[.int .i64 k, .int .i64 n, .string s, .slice A L c] 27)).alloc (.cells #[.int .i64 0, .string ⟨#[]⟩, .string ⟨#[]⟩, .string ⟨#[]⟩, .string ⟨#[]⟩, .string ⟨#[]⟩, .slice none 0 0] 35) = W at M ⊢
 have c1 : W.cell? ⟨w.heap.size, 1, none⟩ = some (.int .i64 n) := M.cell 1
 have HM := qh9 M
 clear M
 have hq := HQ.out
 clear HQ
 generalize k % 8 = q at hq ⊢
 subst hq
 go_wp2_with fail
 refine (symMake n W HN.out.1 HN.out.2).mono ?_
 rintro e w1 ⟨a, b, rfl, hb1, hok⟩
 have hs1 := hb1.size
 have OK : Hid (OkO m (.sym (LA (BA a)) (LA (BA b)))) := ⟨(show SyOk (LA (BA a)) (LA (BA b)) from (by rw [LA_BA, LA_BA]; exact hok)), hm⟩
 have HB1 := qh9 hb1
 clear hb1 c1 hok
 go_wp2_with fail
 refine (symO (BA a) (BA b) w1 NoB).mono ?_
 rintro e w2 ⟨p, rfl, hp, hb2⟩
 have hs2 := hb2.size
 have hsz := HM.out.sz
 have hb12 := HB1.out.trans (hb2.mono hs1)
 have hg2 := qh9 ((hb12.block (w.heap.size + 1) (by omega)).trans HM.out.b1)
 have hbw := qh9 (HM.out.bel.trans (hb12.mono (by omega)))
 clear hb12
 go_wp2_with (refine storeV (w1 := w2) rfl (.tmp 2) (.tmp 34) rfl (w.heap.size + 1) _ _ rfl rfl hp _ _ hg2.out rfl ?_)
 exact retX (q := 2) rfl rfl hg2.out hp (fun h => by
  rcases h with h | ⟨h, _⟩
  · exact h
  · omega) (fun b hb => by
  rcases hb with hb | ⟨h1, h2⟩
  · exact hb.elim
  · exact .inr ⟨by omega, h2⟩) (by omega) hbw.out OK.out

theorem mkRetQ {w W : World} {m : Nat} {q : Rat} (hb : Below w.heap.size w W) {z0 z1 z2 z3 z4 z5 z6 : Value} (h1 : W.heap[w.heap.size + 1]? = some (.cells #[z0, z1, z2, z3, z4, z5, z6] 35 (0, 0))) (ok : OkO m (.num q)) {fn : Func} {r : Tmp} {tmps : Array Value}
 (h : fn.results = #[.cell r 35]) (hr : tmps.getD r undef = .pointer (some ⟨w.heap.size + 1, 0, none⟩)) :
 bodyPost Tryz.prog fn (RetX w m) Exit.ret ⟨tmps, []⟩ (((((((W.setCell ⟨w.heap.size + 1, 0, none⟩ (.int .i64 1)).setCell ⟨w.heap.size + 1, 1, none⟩ (.string (nt q))).setCell ⟨w.heap.size + 1, 2, none⟩ (.string (dt q))).setCell ⟨w.heap.size + 1, 3, none⟩ (.string ⟨#[]⟩)).setCell ⟨w.heap.size + 1, 4, none⟩ (.string ⟨#[]⟩)).setCell ⟨w.heap.size + 1, 5, none⟩ (.string ⟨#[]⟩)).setCell ⟨w.heap.size + 1, 6, none⟩ (.slice none 0 0)) := by
 rw [setRow7 h1 rfl]
 exact retX (S' := NoB) (o := .num q) (p := .slice none 0 0) h hr h1 rfl (fun h => h) (fun _ h => h.elim) (by omega) hb ok

theorem objRat (k n : Int) (s : ByteArray) (A : Option Addr) (L c : Nat) (w : World) (m : Nat) (hm : 1 ≤ m) (hq : k % 8 = 2) (hk : I64 k) (hn : I64 n) (hs : s.size ≤ 12) (ht : Tab w) :
 Calls Tryz.prog 7 #[.agg #[.int .i64 k, .int .i64 n, .string s, .slice A L c]] w (RetX w m) := by
 have HT := qh9 ht
 have HK := qh9 hk
 have HN := qh9 hn
 have HQ := qh9 hq
 clear hk hq hn ht
 go_enter Tryz.func7, Tryz.ntmps7
 go_wp2_with fail
 have M := MkW.new w #[.int .i64 k, .int .i64 n, .string s, .slice A L c]
 refine (modO k 8 _ HK.out.1 HK.out.2 (by decide) (by decide)).mono ?_
 rintro e w1 ⟨rfl, rfl⟩
 generalize (w.alloc (.cells #[.int .i64 k, .int .i64 n, .string s, .slice A L c] 27)).alloc (.cells #[.int .i64 0, .string ⟨#[]⟩, .string ⟨#[]⟩, .string ⟨#[]⟩, .string ⟨#[]⟩, .string ⟨#[]⟩, .slice none 0 0] 35) = W at M ⊢
 have c1 : W.cell? ⟨w.heap.size, 1, none⟩ = some (.int .i64 n) := M.cell 1
 have c2 : W.cell? ⟨w.heap.size, 2, none⟩ = some (.string s) := M.cell 2
 have HM := qh9 M
 clear M
 have hq := HQ.out
 clear HQ
 generalize k % 8 = q at hq ⊢
 subst hq
 have j0 := Int.emod_nonneg n (show (41 : Int) ≠ 0 by decide)
 have j1 := Int.emod_lt_of_pos n (show (0 : Int) < 41 by decide)
 have CM : Hid (∀ W, Calls Tryz.prog 19 #[.int .i64 n, .int .i64 41] W fun e w' => e = .returned (.int .i64 (n % 41)) ∧ W = w') := fun W => modO n 41 W HN.out.1 HN.out.2 (by decide) (by decide)
 generalize n % 41 = j at j0 j1 CM
 obtain ⟨z, hz⟩ : ∃ z : Nat, s.size = z := ⟨_, rfl⟩
 have hz12 : z ≤ 12 := by omega
 have HB : Hid (∀ W', Below W.heap.size W W' → Tab W') := fun W' h => HT.out.below (HM.out.below h).1
 have CF1 : Hid (∀ W', Below W.heap.size W W' → Calls Tryz.prog 22 #[.int .i64 (j - 20)] W' (RetS W' (j - 20))) := fun W' h => fromIntR _ W' (i64_small (by omega)) (HB.out W' h)
 have CF2 : Hid (∀ W', Below W.heap.size W W' → Calls Tryz.prog 22 #[.int .i64 (1 + (s.size : Int))] W' (RetS W' (1 + (s.size : Int)))) := fun W' h => fromIntR _ W' (i64_small (by omega)) (HB.out W' h)
 have t1 : (BA (text (j - 20))).size ≤ 10 := by
  rw [BA_size]; exact Nat.le_trans (text_length (k := 4) (by omega)) (by omega)
 have t2 : (BA (text (1 + (s.size : Int)))).size ≤ 10 := by
  rw [BA_size]; exact Nat.le_trans (text_length (k := 4) (by omega)) (by omega)
 have CQ : Hid (∀ W', Calls Tryz.prog 21 #[.string (BA (text (j - 20))), .string (BA (text (1 + (s.size : Int))))] W' (RetN W' (quo (LA (BA (text (j - 20)))) (LA (BA (text (1 + (s.size : Int)))))))) := fun W' => ratRN _ _ W' (by omega) (by omega)
 have OK : Hid (OkO m (.num (quo (LA (BA (text (j - 20)))) (LA (BA (text (1 + (s.size : Int)))))))) := ⟨(bd_quo (k := 10) (by show (BA _).size ≤ 10; omega) (by show (BA _).size ≤ 10; omega) (by decide)), hm⟩
 generalize quo (LA (BA (text (j - 20)))) (LA (BA (text (1 + (s.size : Int))))) = x at CQ OK
 have HS := qh9 hs
 have HC : Hid (∀ W', Below W.heap.size W W' → W'.cell? ⟨w.heap.size, 1, none⟩ = some (.int .i64 n) ∧ W'.cell? ⟨w.heap.size, 2, none⟩ = some (.string s)) := fun W' h => ⟨by rw [cell_of_row _ _ _ _ _ _ (HM.out.below h).2.1]; rfl, by rw [cell_of_row _ _ _ _ _ _ (HM.out.below h).2.1]; rfl⟩
 have e1 : IntKind.i64.wrap (j - 20) = j - 20 := IntWalk.i64_in _ (by omega)
 have e2 : IntKind.i64.wrap (1 + (s.size : Int)) = 1 + (s.size : Int) := IntWalk.i64_in _ (by omega)
 clear t1 t2 hz hz12 hs j0 j1
 have hB0 : Below W.heap.size W W.drew := (Below.refl _ _).drew
 go_wp2_with fail
 go_region_held3 (fun W' => W'.cell? ⟨w.heap.size, 1, none⟩ = some (.int .i64 n) ∧ W'.cell? ⟨w.heap.size, 2, none⟩ = some (.string s))
  (go_keep)
  (first
   | (go_at_call 19; refine (CM.out _).mono ?_; rintro e w3 ⟨rfl, rfl⟩)
   | (go_at_call 22; (with_reducible refine (CF1.out _ ‹Below W.heap.size W _›).mono ?_); rintro e w3 ⟨rfl, hb3⟩; have hB3 := chain2 ‹Below W.heap.size W _› hb3 (Nat.le_refl _); clear hb3 c1 c2; obtain ⟨c1, c2⟩ := HC.out _ hB3)
   | (go_at_call 22; (with_reducible refine (CF2.out _ ‹Below W.heap.size W _›).mono ?_); rintro e w4 ⟨rfl, hb4⟩; have hB4 := chain2 ‹Below W.heap.size W _› hb4 (Nat.le_refl _); clear hb4 c1 c2; obtain ⟨c1, c2⟩ := HC.out _ hB4)
   | (go_at_call 21; refine (CQ.out _).mono ?_; rintro e w5 ⟨rfl, hb5⟩; have hB5 := chain2 ‹Below W.heap.size W _› hb5 (Nat.le_refl _); clear hb5 c1 c2; obtain ⟨c1, c2⟩ := HC.out _ hB5; have hg5 := (HM.out.below hB5).2.2; obtain ⟨⟨z0, z1, z2, z3, z4, z5, z6⟩, hz0⟩ := row7 hg5; clear hg5; unfold vQ))
 all_goals go_wp2
 all_goals exact mkRetQ (HM.out.below ‹Below W.heap.size W _›).1 (HM.out.below ‹Below W.heap.size W _›).2.2 OK.out rfl rfl
end Go.Proofs.YtocbedijpomemaaGreatDoor
