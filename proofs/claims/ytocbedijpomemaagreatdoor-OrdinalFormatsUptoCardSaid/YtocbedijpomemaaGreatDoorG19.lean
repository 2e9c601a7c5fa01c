import Derived.Test.YtocbedijpomemaaGreatDoorAl
import Derived.Test.YtocbedijpomemaaGreatDoorG17
import Derived.Test.YtocbedijpomemaaGreatDoorG16
import Derived.Test.YtocbedijpomemaaGreatDoorG18
import Derived.Test.YtocbedijpomemaaGreatDoorG11
import Derived.Test.YtocbedijpomemaaGreatDoorG12
import Derived.Test.YtocbedijpomemaaGreatDoorG13
import Derived.Test.YtocbedijpomemaaGreatDoorG7
import Derived.Lib.AppendStr
namespace Go.Proofs.YtocbedijpomemaaGreatDoor
open Go Go.RowKit
set_option linter.unusedVariables false
set_option maxHeartbeats 32000000
set_option maxRecDepth 100000
def mkR (kd : Nat → Nat) (raw : Nat → Value) (M : Nat) (i : Nat) (v : Value) (lo hi : Nat) (w : World) : Prop :=
 match kd i with
 | 0 => v = raw i
 | 1 => ∃ o p, v = vO o p ∧ Pair w (fun b => lo ≤ b ∧ b < hi) o p ∧ OkO M o
 | _ => v = .pointer (some ⟨lo, 0, none⟩) ∧ w.heap[lo]? = some (.cells #[.int .i64 0, .string ⟨#[]⟩, .string ⟨#[]⟩, .string ⟨#[]⟩, .string ⟨#[]⟩, .string ⟨#[]⟩, .slice none 0 0] 35 (0, 0)) ∧ lo < hi
theorem mkR_mono {kd : Nat → Nat} {raw : Nat → Value} {M : Nat} : ∀ i x l m w w', mkR kd raw M i x l m w → m ≤ w.heap.size → Below w.heap.size w w' → mkR kd raw M i x l m w' := by
 intro i x l m w w' h hm hb
 unfold mkR at h ⊢
 generalize kd i = k at h ⊢
 match k, h with
 | 0, h => exact h
 | 1, ⟨o, p, h1, h2, h3⟩ => exact ⟨o, p, h1, h2.below (fun b hb => by omega) hb, h3⟩
 | k + 2, ⟨h1, h2, h3⟩ => exact ⟨h1, (hb.block _ (by omega)).trans h2, h3⟩
def injL (l : List Nat) : Bool := (List.range l.length).all fun i => (List.range l.length).all fun j => decide (l.getD i 0 = l.getD j 0 → i = j)
theorem inj_getD (l : List Nat) (h : injL l = true) (i j : Nat) (hi : i < l.length) (hj : j < l.length) (e : l.getD i 0 = l.getD j 0) : i = j := by
 have h1 := List.all_eq_true.1 h i (List.mem_range.2 hi)
 have h2 := List.all_eq_true.1 h1 j (List.mem_range.2 hj)
 exact of_decide_eq_true h2 e
theorem lt_getD (m : Nat) (l : List Nat) (h : (l.all fun x => decide (x < m)) = true) (i : Nat) (hi : i < l.length) : l.getD i 0 < m := by
 have h1 := List.all_eq_true.1 h l[i] (List.getElem_mem hi)
 rw [List.getD_eq_getElem?_getD, List.getElem?_eq_getElem hi]
 exact of_decide_eq_true h1
theorem ne_getD (m : Nat) (l : List Nat) (h : (l.all fun x => decide (x ≠ m)) = true) (i : Nat) (hi : i < l.length) : l.getD i 0 ≠ m := by
 have h1 := List.all_eq_true.1 h l[i] (List.getElem_mem hi)
 rw [List.getD_eq_getElem?_getD, List.getElem?_eq_getElem hi]
 exact of_decide_eq_true h1
theorem lt_of_heap {w : World} {b : Nat} {o : Obj} (h : w.heap[b]? = some o) : b < w.heap.size := by
 rcases Nat.lt_or_ge b w.heap.size with hlt | hge
 · exact hlt
 · rw [Array.getElem?_eq_none hge] at h; cases h
structure FixB (w X : World) (g0 g1 r : Nat) (x y : Array Value) : Prop where
 bel : Below w.heap.size w X
 h0 : X.heap[g0]? = some (.cells x 35 (0, 0))
 h1 : X.heap[g1]? = some (.cells y 35 (0, 0))
 hr : ∃ z : Array Value, z.size = 7 ∧ X.heap[r]? = some (.cells z 35 (0, 0))
 n0 : r < g0
 n1 : r < g1
 low : w.heap.size ≤ r
theorem FixB.below {w X X' : World} {g0 g1 r : Nat} {x y : Array Value} (h : FixB w X g0 g1 r x y) (hb : Below X.heap.size X X') : FixB w X' g0 g1 r x y := by
 obtain ⟨z, hz, h2⟩ := h.hr
 exact ⟨h.bel.trans (hb.mono h.bel.size), (hb.block _ (lt_of_heap h.h0)).trans h.h0, (hb.block _ (lt_of_heap h.h1)).trans h.h1, ⟨z, hz, (hb.block _ (lt_of_heap h2)).trans h2⟩, h.n0, h.n1, h.low⟩
theorem FixB.ret {w X : World} {g0 g1 r : Nat} {x y : Array Value} (T : FixB w X g0 g1 r x y) (q : Rat) {fn : Func} {t : Tmp} {tmps : Array Value} (h : fn.results = #[.cell t 35]) (hr : tmps.getD t undef = .pointer (some ⟨r, 0, none⟩)) :
 bodyPost Tryz.prog fn (RetN w q) Exit.ret ⟨tmps, []⟩ (((((((X.setCell ⟨r, 0, none⟩ (.int .i64 1)).setCell ⟨r, 1, none⟩ (.string (nt q))).setCell ⟨r, 2, none⟩ (.string (dt q))).setCell ⟨r, 3, none⟩ (.string ⟨#[]⟩)).setCell ⟨r, 4, none⟩ (.string ⟨#[]⟩)).setCell ⟨r, 5, none⟩ (.string ⟨#[]⟩)).setCell ⟨r, 6, none⟩ (.slice none 0 0)) := by
 obtain ⟨z, hz, h2⟩ := T.hr
 rw [setRow7 h2 hz]
 exact retN h hr (setRow_heap _ _ _ _ _ _ h2) rfl (below_setRowO T.bel T.low _)

theorem sumR (d : Nat) (hd : d ≤ 1000) (a a' : Ob) (p p' : Value) (w : World) (S : Nat → Prop) (hp : Pair w S a p) (hp' : Pair w S a' p') (hb : Bd d a.fix) (hb' : Bd d a'.fix) (ht : Tab w) :
 Calls Tryz.prog 59 #[vO a p, vO a' p'] w (RetN w (a.fix + a'.fix)) := by
 have HT := qh9 ht
 have A1 : Hid (∀ wd, Tab wd → Calls Tryz.prog 79 #[vO a p] wd (RetN wd a.fix)) := fun wd h => fixR a p wd (fun q e => by subst e; exact hp) h
 have A2 : Hid (∀ wd, Tab wd → Calls Tryz.prog 79 #[vO a' p'] wd (RetN wd a'.fix)) := fun wd h => fixR a' p' wd (fun q e => by subst e; exact hp') h
 clear ht hp hp'
 generalize a.fix = x at A1 hb ⊢
 generalize a'.fix = y at A2 hb' ⊢
 obtain ⟨x0, x1, x2, x3, x4, x5, e⟩ := cells7 a p
 obtain ⟨y0, y1, y2, y3, y4, y5, e'⟩ := cells7 a' p'
 unfold vO at A1 A2
 rw [e] at A1
 rw [e'] at A2
 unfold vO
 rw [e, e']
 clear e e'
 go_enter Tryz.func59, Tryz.ntmps59
 go_wp2_with fail
 have T0 := Three.new w #[x0, x1, x2, x3, x4, x5, p] #[y0, y1, y2, y3, y4, y5, p'] #[.int .i64 0, .string ⟨#[]⟩, .string ⟨#[]⟩, .string ⟨#[]⟩, .string ⟨#[]⟩, .string ⟨#[]⟩, .slice none 0 0] rfl
 generalize ((w.alloc (.cells #[x0, x1, x2, x3, x4, x5, p] 35)).alloc (.cells #[y0, y1, y2, y3, y4, y5, p'] 35)).alloc (.cells #[.int .i64 0, .string ⟨#[]⟩, .string ⟨#[]⟩, .string ⟨#[]⟩, .string ⟨#[]⟩, .string ⟨#[]⟩, .slice none 0 0] 35) = W at T0 ⊢
 have HX := qh9 T0
 clear T0
 try go_wp2_with fail
 refine wp_region_grow (l := _) 6 (by kernel_rfl) (by kernel_rfl) (fun i => [7, 8, 9, 10, 5, 6].getD i 0) (mkR (fun i => [0, 0, 0, 0, 2, 2].getD i 3) (fun i => [.agg #[x0, x1, x2, x3, x4, x5, p], vQ x, .agg #[y0, y1, y2, y3, y4, y5, p'], vQ y].getD i undef) 0) mkR_mono (by
  intro i j hi hj h
  have := inj_getD [7, 8, 9, 10, 5, 6] (by decide) i j hi hj h
  exact this) (by
  intro i hi
  have := lt_getD 28 [7, 8, 9, 10, 5, 6] (by decide) i hi
  exact this) ?step ?done
 case step =>
  intro i hi a w9 v lo hi' hoth hbl hw
  have hB := HX.out.below hbl
  have sl0 : a.tmps[2]? = some (.pointer (some ⟨w.heap.size, 0, none⟩)) := (hoth 2 (fun j hj => ne_getD 2 _ (by decide) j hj)).trans rfl
  have sl1 : a.tmps[3]? = some (.pointer (some ⟨w.heap.size + 1, 0, none⟩)) := (hoth 3 (fun j hj => ne_getD 3 _ (by decide) j hj)).trans rfl
  match i, hi with
  | 0, _ => exact grow_load rfl rfl 35 (.tmp 2) rfl w.heap.size 0 (eval_of sl0) [x0, x1, x2, x3, x4, x5, p] _ (World.rangeAt_of_block hB.b0 0 7) Tryz.underlying35 rfl (by kernel_rfl) ⟨_, rfl, Below.refl _ _, rfl⟩
  | 1, _ =>
   obtain ⟨sx, ex, _⟩ := hw 0 (by omega) (by kernel_rfl)
   have e : v 0 = .agg #[x0, x1, x2, x3, x4, x5, p] := ex
   rw [e] at sx
   refine grow_call1 rfl rfl 79 7 _ rfl _ (fun v w => by go_simp) sx ?_
   refine (A1.out w9 (HT.out.below hB.bel)).mono ?_
   rintro e w3 ⟨rfl, hb3⟩
   exact ⟨_, rfl, _, rfl, hb3, rfl⟩
  | 2, _ => exact grow_load rfl rfl 35 (.tmp 3) rfl (w.heap.size + 1) 0 (eval_of sl1) [y0, y1, y2, y3, y4, y5, p'] _ (World.rangeAt_of_block hB.b1 0 7) Tryz.underlying35 rfl (by kernel_rfl) ⟨_, rfl, Below.refl _ _, rfl⟩
  | 3, _ =>
   obtain ⟨sx, ex, _⟩ := hw 2 (by omega) (by kernel_rfl)
   have e : v 2 = .agg #[y0, y1, y2, y3, y4, y5, p'] := ex
   rw [e] at sx
   refine grow_call1 rfl rfl 79 9 _ rfl _ (fun v w => by go_simp) sx ?_
   refine (A2.out w9 (HT.out.below hB.bel)).mono ?_
   rintro e w3 ⟨rfl, hb3⟩
   exact ⟨_, rfl, _, rfl, hb3, rfl⟩
  | 4, _ => exact grow_allocO rfl rfl rfl ⟨_, rfl, Below.alloc (Below.refl _ _) (Nat.le_refl _) _, rfl, heap_alloc_new _ _, by simp⟩
  | 5, _ => exact grow_allocO rfl rfl rfl ⟨_, rfl, Below.alloc (Below.refl _ _) (Nat.le_refl _) _, rfl, heap_alloc_new _ _, by simp⟩
 case done =>
  intro a w9 v lo hi' hdef hsz hoth hbl hj hap
  have e0 : v 0 = .agg #[x0, x1, x2, x3, x4, x5, p] := (hj 0 (by omega)).2.1
  have e1 : v 1 = vQ x := (hj 1 (by omega)).2.1
  have e2 : v 2 = .agg #[y0, y1, y2, y3, y4, y5, p'] := (hj 2 (by omega)).2.1
  have e3 : v 3 = vQ y := (hj 3 (by omega)).2.1
  obtain ⟨_, ⟨hw0, hg0, hlt0⟩, hl0, hh0⟩ := hj 4 (by omega)
  obtain ⟨_, ⟨hw1, hg1, hlt1⟩, hl1, hh1⟩ := hj 5 (by omega)
  have q01 := hap 4 5 (by omega) (by omega) (by decide)
  have ha := eq_puts hdef hsz hoth (fun i hi => (hj i hi).1)
  have hB := HX.out.below hbl
  have hsW := HX.out.size
  subst ha
  clear hj hap hoth hdef hsz
  simp only [puts, List.getD_cons_zero, List.getD_cons_succ, e0, e1, e2, e3, hw0, hw1]
  clear e0 e1 e2 e3 hw0 hw1
  generalize lo 4 = g0 at *
  generalize hi' 4 = c0 at *
  generalize lo 5 = g1 at *
  generalize hi' 5 = c1 at *
  simp only [Act.put, List.setIfInBounds_toArray, List.set_cons_zero, List.set_cons_succ]
  show wpList _ _ _ [_, _] _ _
  refine storeN rfl (.tmp 5) (.tmp 8) rfl g0 x rfl rfl _ _ hg0 rfl ?_
  refine storeN rfl (.tmp 6) (.tmp 10) rfl g1 y rfl rfl _ _ ((setRow_other _ _ _ _ (by omega)).trans hg1) rfl ?_
  have hX : FixB w ((w9.setRow g0 #[.int .i64 1, .string (nt x), .string (dt x), .string ⟨#[]⟩, .string ⟨#[]⟩, .string ⟨#[]⟩, .slice none 0 0]).setRow g1 #[.int .i64 1, .string (nt y), .string (dt y), .string ⟨#[]⟩, .string ⟨#[]⟩, .string ⟨#[]⟩, .slice none 0 0]) g0 g1 (w.heap.size + 1 + 1) #[.int .i64 1, .string (nt x), .string (dt x), .string ⟨#[]⟩, .string ⟨#[]⟩, .string ⟨#[]⟩, .slice none 0 0] #[.int .i64 1, .string (nt y), .string (dt y), .string ⟨#[]⟩, .string ⟨#[]⟩, .string ⟨#[]⟩, .slice none 0 0] := by
   obtain ⟨z, hz, h2⟩ := hB.b2
   exact ⟨below_setRowO (below_setRowO hB.bel (by omega) _) (by omega) _, (setRow_other _ _ _ _ (by omega)).trans (setRow_heap _ _ _ _ _ _ hg0), setRow_heap _ _ _ _ _ _ ((setRow_other _ _ _ _ (by omega)).trans hg1),
    ⟨z, hz, (setRow_other _ _ _ _ (by omega)).trans ((setRow_other _ _ _ _ (by omega)).trans h2)⟩, by omega, by omega, by omega⟩
  generalize (w9.setRow g0 #[.int .i64 1, .string (nt x), .string (dt x), .string ⟨#[]⟩, .string ⟨#[]⟩, .string ⟨#[]⟩, .slice none 0 0]).setRow g1 #[.int .i64 1, .string (nt y), .string (dt y), .string ⟨#[]⟩, .string ⟨#[]⟩, .string ⟨#[]⟩, .slice none 0 0] = wc at hX ⊢
  have T := qh9 hX
  clear hX hB hg0 hg1 hlt0 hlt1 hl0 hl1 hh0 hh1 q01 hbl HX A1 A2 hsW
  unfold vQ
  have b1 := bd_nt hb
  have b2 := bd_dt hb
  have b3 := bd_nt hb'
  have b4 := bd_dt hb'
  have hB0 : Below wc.heap.size wc wc.drew := (Below.refl _ _).drew
  obtain ⟨⟨_, c1, c2, _, _, _, _⟩, _⟩ := row7 T.out.h0
  obtain ⟨⟨_, d1, d2, _, _, _, _⟩, _⟩ := row7 T.out.h1
  have n1 : ¬ w.heap.size + 1 + 1 = g0 := by have := T.out.n0; omega
  have n2 : ¬ w.heap.size + 1 + 1 = g1 := by have := T.out.n1; omega
  have n3 : ¬ g0 = w.heap.size + 1 + 1 := by have := T.out.n0; omega
  have n4 : ¬ g1 = w.heap.size + 1 + 1 := by have := T.out.n1; omega
  generalize w.heap.size + 1 + 1 = r at T n1 n2 n3 n4 ⊢
  have m1 := lt_pow_mul hb.1 hb'.2
  have m2 := lt_pow_mul hb'.1 hb.2
  have m3 := lt_pow_mul hb.2 hb'.2
  have hp2 : 10 ^ (d + d + 1) = 10 ^ (d + d) * 10 := Nat.pow_succ ..
  have s1 : (BA (text (val (LA (nt x)) * val (LA (dt y))))).size ≤ 3000 := by
   rw [val_nt, val_dt, BA_size]
   refine Nat.le_trans (text_length (k := d + d) ?_) (by omega)
   rw [Int.natAbs_mul]
   exact m1
  have s2 : (BA (text (val (LA (nt y)) * val (LA (dt x))))).size ≤ 3000 := by
   rw [val_nt, val_dt, BA_size]
   refine Nat.le_trans (text_length (k := d + d) ?_) (by omega)
   rw [Int.natAbs_mul]
   exact m2
  have s3 : (BA (text (val (LA (dt x)) * val (LA (dt y))))).size ≤ 3000 := by
   rw [val_dt, val_dt, BA_size]
   refine Nat.le_trans (text_length (k := d + d) ?_) (by omega)
   rw [Int.natAbs_mul]
   exact m3
  have hA : Hid (∀ W, Calls Tryz.prog 80 #[.string (BA (text (val (LA (nt x)) * val (LA (dt y))))), .string (BA (text (val (LA (nt y)) * val (LA (dt x)))))] W (RetS W (x.num * (y.den : Int) + y.num * (x.den : Int)))) := fun W => by
   have h := addR (BA (text (val (LA (nt x)) * val (LA (dt y))))) (BA (text (val (LA (nt y)) * val (LA (dt x))))) W (by omega) (by omega)
   rw [LA_BA, LA_BA, val_text, val_text, val_nt, val_dt, val_nt, val_dt] at h
   rw [val_nt, val_dt, val_nt, val_dt]
   exact h
  have s4 : (BA (text (x.num * (y.den : Int) + y.num * (x.den : Int)))).size ≤ 3000 := by
   rw [BA_size]
   refine Nat.le_trans (text_length (k := d + d + 1) ?_) (by omega)
   have h3 := Int.natAbs_add_le (x.num * (y.den : Int)) (y.num * (x.den : Int))
   rw [Int.natAbs_mul, Int.natAbs_mul, Int.natAbs_natCast, Int.natAbs_natCast] at h3
   omega
  have RN : Hid (∀ W, Calls Tryz.prog 21 #[.string (BA (text (x.num * (y.den : Int) + y.num * (x.den : Int)))), .string (BA (text (val (LA (dt x)) * val (LA (dt y)))))] W (RetN W (x + y))) := fun W => by
   have h := ratRN (BA (text (x.num * (y.den : Int) + y.num * (x.den : Int)))) (BA (text (val (LA (dt x)) * val (LA (dt y))))) W (by omega) (by omega)
   rw [val_dt, val_dt, quo_text, q_add] at h
   rw [val_dt, val_dt]
   exact h
  clear hb hb' m1 m2 m3 hp2 s1 s2 s3 s4
  generalize x.num * (y.den : Int) + y.num * (x.den : Int) = nn at hA RN
  generalize nt x = nx at *
  generalize dt x = dx at *
  generalize nt y = ny at *
  generalize dt y = dy at *
  go_wp2_with fail
  go_region_held3 (fun W' => W'.cell? ⟨g0, 1, none⟩ = some (.string nx) ∧ W'.cell? ⟨g0, 2, none⟩ = some (.string dx) ∧ W'.cell? ⟨g1, 1, none⟩ = some (.string ny) ∧ W'.cell? ⟨g1, 2, none⟩ = some (.string dy)) (go_keep)
   (first
    | (go_at_call 81; refine (multiplyR _ _ _ (by omega) (by omega)).mono ?_; rintro e w3 ⟨rfl, hb3⟩; have hB3 := chain2 ‹Below wc.heap.size wc _› hb3 (Nat.le_refl _); obtain ⟨⟨_, c1, c2, _, _, _, _⟩, _⟩ := row7 (T.out.below hB3).h0; obtain ⟨⟨_, d1, d2, _, _, _, _⟩, _⟩ := row7 (T.out.below hB3).h1)
    | (go_at_call 80; refine (hA.out _).mono ?_; rintro e w5 ⟨rfl, hb5⟩; have hB5 := chain2 ‹Below wc.heap.size wc _› hb5 (Nat.le_refl _); obtain ⟨⟨_, c1, c2, _, _, _, _⟩, _⟩ := row7 (T.out.below hB5).h0; obtain ⟨⟨_, d1, d2, _, _, _, _⟩, _⟩ := row7 (T.out.below hB5).h1)
    | (go_at_call 21; refine (RN.out _).mono ?_; rintro e w4 ⟨rfl, hb4⟩; have hB4 := chain2 ‹Below wc.heap.size wc _› hb4 (Nat.le_refl _); obtain ⟨⟨_, c1, c2, _, _, _, _⟩, _⟩ := row7 (T.out.below hB4).h0; obtain ⟨⟨_, d1, d2, _, _, _, _⟩, _⟩ := row7 (T.out.below hB4).h1; obtain ⟨z, hz, hz2⟩ := (T.out.below hB4).hr; obtain ⟨z0, z1, z2, z3, z4, z5, z6, ⟨q0, q1, q2, q3, q4, q5, q6⟩, f2⟩ := row7z hz hz2; clear hz hz2; unfold vQ))
  all_goals go_wp2
  all_goals exact FixB.ret (T.out.below ‹Below wc.heap.size wc _›) _ rfl rfl
inductive On where
 | fin (n : Nat)
 | pw (e : On) (c : Nat) (r : On)
deriving DecidableEq

def On.exp : On → On
 | .fin _ => .fin 0
 | .pw e _ _ => e
def On.coef : On → Nat
 | .fin n => n
 | .pw _ c _ => c
def On.rest : On → On
 | .fin _ => .fin 0
 | .pw _ _ r => r
def cmpNt (a b : Nat) : Int := if a < b then -1 else if b < a then 1 else 0
theorem cmpNt_anti (a b : Nat) : cmpNt b a = - cmpNt a b := by unfold cmpNt; split <;> split <;> omega
theorem cmpNt_zero (a b : Nat) : cmpNt a b = 0 ↔ a = b := by unfold cmpNt; split <;> (try split) <;> omega
theorem cmpNt_trans (a b c : Nat) : cmpNt a b ≤ 0 → cmpNt b c ≤ 0 → cmpNt a c ≤ 0 := by unfold cmpNt; split <;> split <;> split <;> (try split) <;> (try split) <;> omega
theorem cmpNt_neg {a b : Nat} : cmpNt a b < 0 ↔ a < b := by unfold cmpNt; split <;> (try split) <;> omega
theorem orders_Nt : Orders cmpNt := ⟨cmpNt_anti, cmpNt_zero, cmpNt_trans⟩
def cmpE : On → On → Int
 | .fin a, .fin b => cmpNt a b
 | .fin _, .pw _ _ _ => -1
 | .pw _ _ _, .fin _ => 1
 | .pw e c r, .pw e' c' r' => next (cmpE e e') (next (cmpNt c c') (cmpE r r'))
theorem cmpE_anti : ∀ a b : On, cmpE b a = - cmpE a b
 | .fin a, .fin b => cmpNt_anti a b
 | .fin _, .pw _ _ _ => rfl
 | .pw _ _ _, .fin _ => rfl
 | .pw e c r, .pw e' c' r' => next_anti (cmpE_anti e e') (next_anti (cmpNt_anti c c') (cmpE_anti r r'))
theorem cmpE_zero : ∀ a b : On, cmpE a b = 0 ↔ a = b
 | .fin a, .fin b => by simp only [cmpE, On.fin.injEq]; exact cmpNt_zero a b
 | .fin _, .pw _ _ _ => by simp [cmpE]
 | .pw _ _ _, .fin _ => by simp [cmpE]
 | .pw e c r, .pw e' c' r' => by simp only [cmpE, next_zero, On.pw.injEq, cmpE_zero e e', cmpE_zero r r', cmpNt_zero]
theorem cmpE_self (a : On) : cmpE a a = 0 := (cmpE_zero a a).2 rfl
theorem cmpE_trans : ∀ a b c : On, cmpE a b ≤ 0 → cmpE b c ≤ 0 → cmpE a c ≤ 0 := by
 intro a
 induction a with
 | fin n =>
  intro b c h1 h2
  cases b with
  | fin m =>
   cases c with
   | fin k => exact cmpNt_trans n m k h1 h2
   | pw e c r => show (-1 : Int) ≤ 0; omega
  | pw e c' r =>
   cases c with
   | fin k => simp [cmpE] at h2
   | pw e c r => show (-1 : Int) ≤ 0; omega
 | pw e c0 r ihe ihr =>
  intro b c h1 h2
  cases b with
  | fin m => simp [cmpE] at h1
  | pw e' c' r' =>
   cases c with
   | fin k => simp [cmpE] at h2
   | pw e2 c2 r2 =>
    have lt_of : ∀ {x : On}, (∀ b c : On, cmpE x b ≤ 0 → cmpE b c ≤ 0 → cmpE x c ≤ 0) → ∀ b c, cmpE x b < 0 → cmpE b c ≤ 0 → cmpE x c < 0 := fun {x} ih b c g1 g2 => by
     have g3 := ih b c (by omega) g2
     rcases Int.lt_or_eq_of_le g3 with g4 | g4
     · exact g4
     · have e := (cmpE_zero _ _).1 g4
       subst e
       have := cmpE_anti x b
       omega
    have lt_of' : ∀ {x : On}, (∀ b c : On, cmpE x b ≤ 0 → cmpE b c ≤ 0 → cmpE x c ≤ 0) → ∀ b c, cmpE x b ≤ 0 → cmpE b c < 0 → cmpE x c < 0 := fun {x} ih b c g1 g2 => by
     have g3 := ih b c g1 (by omega)
     rcases Int.lt_or_eq_of_le g3 with g4 | g4
     · exact g4
     · have e := (cmpE_zero _ _).1 g4
       subst e
       have := cmpE_anti x b
       omega
    have eq_of : ∀ {x b c : On}, cmpE x b = 0 → cmpE b c = 0 → cmpE x c = 0 := fun g1 g2 => (cmpE_zero _ _).2 (((cmpE_zero _ _).1 g1).trans ((cmpE_zero _ _).1 g2))
    exact next_trans (ihe _ _) (lt_of ihe _ _) (lt_of' ihe _ _) eq_of
     (fun g1 g2 => next_trans (cmpNt_trans _ _ _) (orders_Nt.ltl _ _ _) (orders_Nt.ltr _ _ _) (orders_Nt.eq _ _ _) (ihr _ _) g1 g2) h1 h2
theorem orders_E : Orders cmpE := ⟨cmpE_anti, cmpE_zero, cmpE_trans⟩
def On.nf : On → Prop
 | .fin _ => True
 | .pw e c r => e.nf ∧ e ≠ .fin 0 ∧ 1 ≤ c ∧ r.nf ∧ cmpE r.exp e < 0
theorem On.nf.nf_exp {a : On} (h : a.nf) : a.exp.nf := by
 cases a with
 | fin n => trivial
 | pw e c r => exact h.1
theorem cmpE_fin0 (a : On) : 0 ≤ cmpE a (.fin 0) := by
 cases a with
 | fin n => show 0 ≤ cmpNt n 0; unfold cmpNt; split <;> (try split) <;> omega
 | pw e c r => show (0 : Int) ≤ 1; omega
theorem cmpE_pos {a : On} (h : a ≠ .fin 0) : 0 < cmpE a (.fin 0) := by
 have h1 := cmpE_fin0 a
 have h2 : cmpE a (.fin 0) ≠ 0 := fun e => h ((cmpE_zero _ _).1 e)
 omega
theorem cmpE_ways (a b : On) : cmpE a b < 0 ∨ a = b ∨ 0 < cmpE a b := by
 rcases Int.lt_trichotomy (cmpE a b) 0 with h | h | h
 · exact .inl h
 · exact .inr (.inl ((cmpE_zero a b).1 h))
 · exact .inr (.inr h)
theorem cmpE_flip {a b : On} : 0 < cmpE a b ↔ cmpE b a < 0 := by have := cmpE_anti a b; omega
def addE : On → On → On
 | .fin m, .fin n => .fin (m + n)
 | .fin _, .pw e c r => .pw e c r
 | .pw e c r, b => if cmpE e b.exp < 0 then b else if cmpE e b.exp = 0 then .pw e (c + b.coef) b.rest else .pw e c (addE r b)
theorem addE_lt {e : On} {c : Nat} {r b : On} (h : cmpE e b.exp < 0) : addE (.pw e c r) b = b := by
 unfold addE; rw [if_pos h]
theorem addE_eq {e : On} {c : Nat} {r b : On} (h : e = b.exp) : addE (.pw e c r) b = .pw e (c + b.coef) b.rest := by
 unfold addE
 have h0 : cmpE e b.exp = 0 := by rw [← h]; exact cmpE_self e
 rw [if_neg (by omega), if_pos h0]
theorem addE_gt {e : On} {c : Nat} {r b : On} (h : 0 < cmpE e b.exp) : addE (.pw e c r) b = .pw e c (addE r b) := by
 conv => lhs; unfold addE
 rw [if_neg (by omega), if_neg (by omega)]
theorem addE_zero_left (b : On) : addE (.fin 0) b = b := by
 cases b with
 | fin n => show On.fin (0 + n) = _; rw [Nat.zero_add]
 | pw e c r => rfl
theorem addE_zero_right : ∀ {a : On}, a.nf → addE a (.fin 0) = a
 | .fin m, _ => rfl
 | .pw e c r, h => by
  rw [addE_gt (cmpE_pos h.2.1), addE_zero_right h.2.2.2.1]
theorem addE_exp : ∀ (a b : On), (addE a b).exp = if cmpE a.exp b.exp < 0 then b.exp else a.exp
 | .fin m, .fin n => by rw [if_neg (by rw [show (On.fin m).exp = (On.fin n).exp from rfl, cmpE_self]; omega)]; rfl
 | .fin m, .pw e c r => by
  show e = if cmpE (.fin 0) e < 0 then e else .fin 0
  split
  · rfl
  · rename_i h
    have h1 := cmpE_fin0 e
    have h2 := cmpE_anti e (.fin 0)
    exact (cmpE_zero _ _).1 (by omega)
 | .pw e c r, b => by
  rcases cmpE_ways e b.exp with h | h | h
  · have h' : cmpE (On.pw e c r).exp b.exp < 0 := h
    rw [addE_lt h, if_pos h']
  · rw [addE_eq h, if_neg (by show ¬ cmpE e b.exp < 0; rw [← h, cmpE_self]; omega)]; rfl
  · rw [addE_gt h, if_neg (by show ¬ cmpE e b.exp < 0; omega)]; rfl
theorem nz_pw {e : On} {c : Nat} {r : On} : On.pw e c r ≠ .fin 0 := fun h => by cases h
theorem on_pw {b : On} (h : b.exp ≠ .fin 0) : b = .pw b.exp b.coef b.rest := by
 cases b with
 | fin n => exact absurd rfl h
 | pw e c r => rfl
theorem cmpE_exp {a b : On} (h : cmpE a b < 0) : cmpE a.exp b.exp ≤ 0 := by
 cases a with
 | fin m =>
  have := cmpE_fin0 b.exp
  have := cmpE_anti b.exp (.fin 0)
  show cmpE (.fin 0) b.exp ≤ 0
  omega
 | pw e c r =>
  cases b with
  | fin n => simp [cmpE] at h
  | pw e' c' r' =>
   have h' : next (cmpE e e') (next (cmpNt c c') (cmpE r r')) ≤ 0 := by show cmpE (.pw e c r) (.pw e' c' r') ≤ 0; omega
   show cmpE e e' ≤ 0
   rw [next_le] at h'
   omega
theorem cmpE_of_exp {a b : On} (h : cmpE a.exp b.exp < 0) : cmpE a b < 0 := by
 cases a with
 | fin m =>
  cases b with
  | fin n => rw [show (On.fin m).exp = (On.fin n).exp from rfl, cmpE_self] at h; omega
  | pw e c r => show (-1 : Int) < 0; omega
 | pw e c r =>
  cases b with
  | fin n =>
   have := cmpE_fin0 (On.pw e c r).exp
   have h' : cmpE (On.pw e c r).exp (.fin 0) < 0 := h
   omega
  | pw e' c' r' =>
   show next (cmpE e e') _ < 0
   have h' : cmpE e e' < 0 := h
   unfold next
   rw [if_neg (by omega)]
   exact h'
theorem cmpE_pw {e : On} {c c' : Nat} {r r' : On} : cmpE (.pw e c r) (.pw e c' r') = next (cmpNt c c') (cmpE r r') := by
 show next (cmpE e e) _ = _
 rw [cmpE_self]
 rfl
theorem next_neg {c d : Int} : next c d < 0 ↔ c < 0 ∨ (c = 0 ∧ d < 0) := by
 unfold next
 by_cases h : c = 0
 · rw [if_pos h]; subst h; omega
 · rw [if_neg h]; omega
theorem addE_mono : ∀ (a b c : On), a.nf → b.nf → c.nf → cmpE b c < 0 → cmpE (addE a b) (addE a c) < 0
 | .fin m, b, c, _, hb, hc, h => by
  cases b with
  | fin n =>
   cases c with
   | fin k =>
    show cmpNt (m + n) (m + k) < 0
    have h' : cmpNt n k < 0 := h
    rw [cmpNt_neg] at h' ⊢
    omega
   | pw e c r => show (-1 : Int) < 0; omega
  | pw e cb r =>
   cases c with
   | fin k => simp [cmpE] at h
   | pw e' c' r' => exact h
 | .pw e ca r, b, c, ha, hb, hc, h => by
  have hle := cmpE_exp h
  rcases cmpE_ways e b.exp with g | g | g
  · have g2 : cmpE e c.exp < 0 := orders_E.ltl _ _ _ g hle
    rw [addE_lt g, addE_lt g2]
    exact h
  · have hbp := on_pw (b := b) (by rw [← g]; exact ha.2.1)
    rw [addE_eq g]
    rcases cmpE_ways e c.exp with k | k | k
    · rw [addE_lt k]
      exact cmpE_of_exp k
    · have hcp := on_pw (b := c) (by rw [← k]; exact ha.2.1)
      rw [addE_eq k, cmpE_pw]
      rw [hbp, hcp, ← g, ← k, cmpE_pw, next_neg, cmpNt_neg, cmpNt_zero] at h
      rw [next_neg, cmpNt_neg, cmpNt_zero]
      omega
    · have := cmpE_anti e c.exp
      rw [← g] at hle
      omega
  · rw [addE_gt g]
    rcases cmpE_ways e c.exp with k | k | k
    · rw [addE_lt k]
      exact cmpE_of_exp k
    · have hcp := on_pw (b := c) (by rw [← k]; exact ha.2.1)
      have hcc : 1 ≤ c.coef := by rw [hcp] at hc; exact hc.2.2.1
      rw [addE_eq k, cmpE_pw, next_neg, cmpNt_neg]
      exact .inl (by omega)
    · rw [addE_gt k, cmpE_pw, next_neg]
      exact .inr ⟨(cmpNt_zero _ _).2 rfl, addE_mono r b c ha.2.2.2.1 hb hc h⟩
theorem addE_more {a c : On} (ha : a.nf) (hc : c.nf) (h : c ≠ .fin 0) : cmpE a (addE a c) < 0 := by
 have := addE_mono a (.fin 0) c ha trivial hc (by have := cmpE_pos h; have := cmpE_anti c (.fin 0); omega)
 rwa [addE_zero_right ha] at this
theorem addE_nf : ∀ (a b : On), a.nf → b.nf → (addE a b).nf
 | .fin m, .fin n, _, _ => trivial
 | .fin m, .pw e c r, _, hb => hb
 | .pw e c r, b, ha, hb => by
  rcases cmpE_ways e b.exp with h | h | h
  · rw [addE_lt h]; exact hb
  · have hbp := on_pw (b := b) (by rw [← h]; exact ha.2.1)
    rw [addE_eq h]
    rw [hbp] at hb
    exact ⟨ha.1, ha.2.1, by have := ha.2.2.1; omega, hb.2.2.2.1, by rw [h]; exact hb.2.2.2.2⟩
  · rw [addE_gt h]
    refine ⟨ha.1, ha.2.1, ha.2.2.1, addE_nf r b ha.2.2.2.1 hb, ?_⟩
    rw [addE_exp]
    split
    · exact cmpE_flip.1 h
    · exact ha.2.2.2.2
def mulE (a : On) : On → On
 | .fin n => if a = .fin 0 ∨ n = 0 then .fin 0 else match a with
  | .fin m => .fin (m * n)
  | .pw e c r => .pw e (c * n) r
 | .pw e c r => if a = .fin 0 then .fin 0 else .pw (addE a.exp e) c (mulE a r)
theorem mulE_zero_left : ∀ b : On, mulE (.fin 0) b = .fin 0
 | .fin n => by unfold mulE; rw [if_pos (.inl rfl)]
 | .pw e c r => by unfold mulE; rw [if_pos rfl]
theorem mulE_zero_right (a : On) : mulE a (.fin 0) = .fin 0 := by unfold mulE; rw [if_pos (.inr rfl)]
theorem mulE_fin {m n : Nat} : mulE (.fin m) (.fin n) = .fin (m * n) := by
 unfold mulE
 split
 · rename_i h
   rcases h with h | h
   · injection h with h; subst h; rw [Nat.zero_mul]
   · subst h; rw [Nat.mul_zero]
 · rfl
theorem mulE_pf {e : On} {c : Nat} {r : On} {n : Nat} (hn : n ≠ 0) : mulE (.pw e c r) (.fin n) = .pw e (c * n) r := by
 unfold mulE
 rw [if_neg (by rintro (h | h); exact nz_pw h; exact hn h)]
theorem mulE_pw {a e : On} {c : Nat} {r : On} (ha : a ≠ .fin 0) : mulE a (.pw e c r) = .pw (addE a.exp e) c (mulE a r) := by
 conv => lhs; unfold mulE
 rw [if_neg ha]
theorem mulE_exp {a b : On} (ha : a.nf) (h1 : a ≠ .fin 0) (h2 : b ≠ .fin 0) : (mulE a b).exp = addE a.exp b.exp := by
 cases b with
 | fin n =>
  have hn : n ≠ 0 := fun e => h2 (by rw [e])
  show _ = addE a.exp (.fin 0)
  rw [addE_zero_right ha.nf_exp]
  cases a with
  | fin m => rw [mulE_fin]; rfl
  | pw e c r => rw [mulE_pf hn]; rfl
 | pw e c r => rw [mulE_pw h1]; rfl
theorem mulE_nf {a : On} (ha : a.nf) : ∀ (b : On), b.nf → (mulE a b).nf
 | .fin n, _ => by
  by_cases hn : n = 0
  · subst hn; rw [mulE_zero_right]; trivial
  · cases a with
    | fin m => rw [mulE_fin]; trivial
    | pw e c r =>
     rw [mulE_pf hn]
     exact ⟨ha.1, ha.2.1, by have := ha.2.2.1; have := Nat.mul_le_mul this (show 1 ≤ n by omega); omega, ha.2.2.2.1, ha.2.2.2.2⟩
 | .pw e c r, hb => by
  by_cases h0 : a = .fin 0
  · rw [h0, mulE_zero_left]; trivial
  · rw [mulE_pw h0]
    have hlt : cmpE a.exp (addE a.exp e) < 0 := addE_more ha.nf_exp hb.1 hb.2.1
    refine ⟨addE_nf _ _ ha.nf_exp hb.1, ?_, hb.2.2.1, mulE_nf ha r hb.2.2.2.1, ?_⟩
    · intro h
      rw [h] at hlt
      have := cmpE_fin0 a.exp
      omega
    · by_cases hr : r = .fin 0
      · rw [hr, mulE_zero_right]
        show cmpE (.fin 0) _ < 0
        have h2 := cmpE_fin0 a.exp
        have h3 := cmpE_anti a.exp (.fin 0)
        exact orders_E.ltr _ _ _ (by omega) hlt
      · rw [mulE_exp ha h0 hr]
        exact addE_mono _ _ _ ha.nf_exp hb.2.2.2.1.nf_exp hb.1 hb.2.2.2.2
def On.ob : On → Ob
 | .fin n => .num (n : Rat)
 | .pw e c r => .cons (.cons e.ob (.num (c : Rat))) r.ob
def Ob.nat : Ob → Option Nat
 | .num q => if q.den = 1 ∧ 0 ≤ q.num then some q.num.toNat else none
 | _ => none
theorem Ob.nat_some {o : Ob} {n : Nat} (h : o.nat = some n) : o = .num (n : Rat) := by
 cases o with
 | num q =>
  simp only [Ob.nat] at h
  split at h
  · rename_i hq
    injection h with h
    have e : q = ((q.num.toNat : Nat) : Rat) := by
     apply Rat.ext
     · show q.num = ((q.num.toNat : Nat) : Rat).num
       rw [Rat.num_natCast, Int.toNat_of_nonneg hq.2]
     · rw [hq.1, Rat.den_natCast]
    rw [← h, ← e]
  · cases h
 | _ => simp [Ob.nat] at h
theorem Ob.nat_num (n : Nat) : (Ob.num (n : Rat)).nat = some n := by
 simp only [Ob.nat]
 rw [if_pos ⟨Rat.den_natCast _, by rw [Rat.num_natCast]; omega⟩, Rat.num_natCast]
 rfl
theorem natCast_inj {m n : Nat} (h : (m : Rat) = (n : Rat)) : m = n := by
 have := congrArg Rat.num h
 rw [Rat.num_natCast, Rat.num_natCast] at this
 omega
theorem On.ob_inj : ∀ {a b : On}, a.ob = b.ob → a = b
 | .fin m, .fin n, h => by
  injection h with h
  rw [natCast_inj h]
 | .fin _, .pw _ _ _, h => by cases h
 | .pw _ _ _, .fin _, h => by cases h
 | .pw e c r, .pw e' c' r', h => by
  injection h with h1 h2
  injection h1 with h3 h4
  injection h4 with h4
  rw [On.ob_inj h3, On.ob_inj h2, natCast_inj h4]
def ordOf : Ob → Option On
 | .cons (.cons e c) r => match ordOf e, c.nat, ordOf r with
  | some e', some n, some r' => if e' ≠ .fin 0 ∧ n ≠ 0 ∧ cmpE r'.exp e' < 0 then some (.pw e' n r') else none
  | _, _, _ => none
 | .cons _ _ => none
 | o => o.nat.map .fin
theorem ordOf_ob : ∀ {a : On}, a.nf → ordOf a.ob = some a
 | .fin n, _ => by
  show ((Ob.num (n : Rat)).nat).map On.fin = _
  rw [Ob.nat_num]
  rfl
 | .pw e c r, h => by
  show ordOf (.cons (.cons e.ob (.num (c : Rat))) r.ob) = _
  unfold ordOf
  rw [ordOf_ob h.1, ordOf_ob h.2.2.2.1, Ob.nat_num]
  show (if e ≠ .fin 0 ∧ c ≠ 0 ∧ cmpE r.exp e < 0 then some (On.pw e c r) else none) = _
  rw [if_pos ⟨h.2.1, by have := h.2.2.1; omega, h.2.2.2.2⟩]
theorem ordOf_some : ∀ {o : Ob} {a : On}, ordOf o = some a → a.nf ∧ o = a.ob
 | .num q, a, h => by
  have h' : ((Ob.num q).nat).map On.fin = some a := h
  rw [Option.map_eq_some_iff] at h'
  obtain ⟨n, h1, rfl⟩ := h'
  exact ⟨trivial, Ob.nat_some h1⟩
 | .str s, a, h => by have h' : ((Ob.str s).nat).map On.fin = some a := h; simp [Ob.nat] at h'
 | .sym s t, a, h => by have h' : ((Ob.sym s t).nat).map On.fin = some a := h; simp [Ob.nat] at h'
 | .cons (.cons e c) r, a, h => by
  unfold ordOf at h
  cases h1 : ordOf e with
  | none => rw [h1] at h; cases h
  | some e' =>
   cases h2 : c.nat with
   | none => rw [h1, h2] at h; cases h
   | some n =>
    cases h3 : ordOf r with
    | none => rw [h1, h2, h3] at h; cases h
    | some r' =>
     rw [h1, h2, h3] at h
     have h' : (if e' ≠ .fin 0 ∧ n ≠ 0 ∧ cmpE r'.exp e' < 0 then some (On.pw e' n r') else none) = some a := h
     split at h'
     · rename_i hc
       injection h' with h'
       subst h'
       obtain ⟨i1, i2⟩ := ordOf_some h1
       obtain ⟨j1, j2⟩ := ordOf_some h3
       exact ⟨⟨i1, hc.1, by omega, j1, hc.2.2⟩, by rw [i2, j2, Ob.nat_some h2]; rfl⟩
     · cases h'
 | .cons (.num q) r, a, h => by simp [ordOf] at h
 | .cons (.str s) r, a, h => by simp [ordOf] at h
 | .cons (.sym s t) r, a, h => by simp [ordOf] at h
theorem On.nodes_pw (e r : On) (c : Nat) : (On.pw e c r).ob.nodes = 3 + e.ob.nodes + r.ob.nodes := by
 show 1 + (1 + e.ob.nodes + 1) + r.ob.nodes = _
 omega
def On.nd : On → Nat
 | .fin _ => 1
 | .pw e _ r => 3 + e.nd + r.nd
theorem On.nd_ob : ∀ a : On, a.ob.nodes = a.nd
 | .fin _ => rfl
 | .pw e c r => by rw [On.nodes_pw, On.nd_ob e, On.nd_ob r]; rfl
theorem On.nd_pos (a : On) : 1 ≤ a.nd := by cases a <;> simp only [On.nd] <;> omega
def On.bd (k : Nat) : On → Prop
 | .fin n => n ≤ k
 | .pw e c r => e.bd k ∧ c ≤ k ∧ r.bd k
theorem On.bd.more {j k : Nat} (h : j ≤ k) : ∀ {a : On}, a.bd j → a.bd k
 | .fin n, ha => Nat.le_trans ha h
 | .pw e c r, ha => ⟨On.bd.more h ha.1, Nat.le_trans ha.2.1 h, On.bd.more h ha.2.2⟩
theorem On.bd_exp {k : Nat} {a : On} (h : a.bd k) : a.exp.bd k := by
 cases a with
 | fin n => exact Nat.zero_le _
 | pw e c r => exact h.1
theorem On.bd_rest {k : Nat} {a : On} (h : a.bd k) : a.rest.bd k := by
 cases a with
 | fin n => exact Nat.zero_le _
 | pw e c r => exact h.2.2
theorem On.bd_coef {k : Nat} {a : On} (h : a.bd k) : a.coef ≤ k := by
 cases a with
 | fin n => exact h
 | pw e c r => exact h.2.1
theorem On.nd_exp (a : On) : a.exp.nd ≤ a.nd := by
 cases a with
 | fin n => exact Nat.le_refl _
 | pw e c r => show e.nd ≤ 3 + e.nd + r.nd; omega
theorem addE_bd {j k : Nat} : ∀ {a b : On}, a.bd j → b.bd k → (addE a b).bd (j + k)
 | .fin m, .fin n, ha, hb => Nat.add_le_add ha hb
 | .fin m, .pw e c r, ha, hb => On.bd.more (Nat.le_add_left _ _) (a := .pw e c r) hb
 | .pw e c r, b, ha, hb => by
  rcases cmpE_ways e b.exp with h | h | h
  · rw [addE_lt h]; exact hb.more (Nat.le_add_left _ _)
  · rw [addE_eq h]
    exact ⟨ha.1.more (Nat.le_add_right _ _), Nat.add_le_add ha.2.1 (On.bd_coef hb), (On.bd_rest hb).more (Nat.le_add_left _ _)⟩
  · rw [addE_gt h]
    exact ⟨ha.1.more (Nat.le_add_right _ _), Nat.le_trans ha.2.1 (Nat.le_add_right _ _), addE_bd ha.2.2 hb⟩
theorem addE_nd : ∀ (a b : On), (addE a b).nd ≤ a.nd + b.nd
 | .fin m, .fin n => by show 1 ≤ 1 + 1; omega
 | .fin m, .pw e c r => Nat.le_add_left _ _
 | .pw e c r, b => by
  rcases cmpE_ways e b.exp with h | h | h
  · rw [addE_lt h]; exact Nat.le_add_left _ _
  · rw [addE_eq h]
    show 3 + e.nd + b.rest.nd ≤ 3 + e.nd + r.nd + b.nd
    have : b.rest.nd ≤ b.nd := by
     cases b with
     | fin n => exact Nat.le_refl _
     | pw e c r => show r.nd ≤ 3 + e.nd + r.nd; omega
    omega
  · rw [addE_gt h]
    show 3 + e.nd + (addE r b).nd ≤ 3 + e.nd + r.nd + b.nd
    have := addE_nd r b
    omega
theorem mulE_bd {j k : Nat} {a : On} (ha : a.bd j) (hj : 1 ≤ j) (hk : 1 ≤ k) : ∀ {b : On}, b.bd k → (mulE a b).bd (j * k + j + k)
 | .fin n, hb => by
  by_cases hn : n = 0
  · subst hn; rw [mulE_zero_right]; exact Nat.zero_le _
  · cases a with
    | fin m =>
     rw [mulE_fin]
     have h1 : m * n ≤ j * k := Nat.mul_le_mul ha hb
     show m * n ≤ _
     omega
    | pw e c r =>
     rw [mulE_pf hn]
     have h1 : c * n ≤ j * k := Nat.mul_le_mul ha.2.1 hb
     exact ⟨ha.1.more (by omega), by omega, ha.2.2.more (by omega)⟩
 | .pw e c r, hb => by
  by_cases h0 : a = .fin 0
  · rw [h0, mulE_zero_left]; exact Nat.zero_le _
  · rw [mulE_pw h0]
    exact ⟨(addE_bd (On.bd_exp ha) hb.1).more (by omega), by have := hb.2.1; omega, mulE_bd ha hj hk hb.2.2⟩
inductive Sd where
 | mk (n : Int) (l : List Sd)

mutual
def SdAt (w : World) (S : Nat → Prop) : Sd → List Value → Prop
 | .mk n l, cs => ∃ A c, cs = [.int .i64 n, .slice A l.length c] ∧ I64 n ∧ l.length ≤ c ∧ c ≤ maxLen ∧
  (0 < l.length → ∃ b o, A = some ⟨b, o, none⟩ ∧ S b ∧ SdsAt w S b o l)
def SdsAt (w : World) (S : Nat → Prop) (b o : Nat) : List Sd → Prop
 | [] => True
 | r :: rs => (∃ cs, SdAt w S r cs ∧ ∀ j u, cs[j]? = some u → w.cell? ⟨b, o + j, none⟩ = some u) ∧ SdsAt w S b (o + 2) rs
end
mutual
theorem SdAt.keep {w w' : World} {S : Nat → Prop} (hk : ∀ p : Addr, S p.block → w'.cell? p = w.cell? p) : ∀ (r : Sd) (cs : List Value), SdAt w S r cs → SdAt w' S r cs
 | .mk n l, cs, h => by
  unfold SdAt at h ⊢
  obtain ⟨A, c, h1, h2, h4, h5, h6⟩ := h
  refine ⟨A, c, h1, h2, h4, h5, fun hl => ?_⟩
  obtain ⟨b, o, e, hb, hr⟩ := h6 hl
  exact ⟨b, o, e, hb, SdsAt.keep hk b o hb l hr⟩
theorem SdsAt.keep {w w' : World} {S : Nat → Prop} (hk : ∀ p : Addr, S p.block → w'.cell? p = w.cell? p) (b o : Nat) (hb : S b) : ∀ l : List Sd, SdsAt w S b o l → SdsAt w' S b o l
 | [], _ => by unfold SdsAt; trivial
 | r :: rs, h => by
  unfold SdsAt at h ⊢
  obtain ⟨⟨cs, h1, h2⟩, h3⟩ := h
  exact ⟨⟨cs, SdAt.keep hk r cs h1, fun j u hj => (hk ⟨b, o + j, none⟩ hb).trans (h2 j u hj)⟩, SdsAt.keep hk b (o + 2) hb rs h3⟩
end
theorem SdAt.below {w w' : World} {S : Nat → Prop} {B : Nat} {r : Sd} {cs : List Value} (h : SdAt w S r cs) (hS : ∀ b, S b → b < B) (hb : Below B w w') : SdAt w' S r cs := h.keep fun q hq => hb.cell (hS q.block hq)
theorem SdsAt.get {w : World} {S : Nat → Prop} {b : Nat} : ∀ {l : List Sd} {o i : Nat} (hi : i < l.length), SdsAt w S b o l → ∃ cs, SdAt w S l[i] cs ∧ ∀ j u, cs[j]? = some u → w.cell? ⟨b, o + i * 2 + j, none⟩ = some u
 | r :: rs, o, 0, hi, h => by
  unfold SdsAt at h
  obtain ⟨cs, h1, h2⟩ := h.1
  exact ⟨cs, h1, fun j u hj => by rw [Nat.zero_mul, Nat.add_zero]; exact h2 j u hj⟩
 | r :: rs, o, i + 1, hi, h => by
  unfold SdsAt at h
  obtain ⟨cs, h1, h2⟩ := SdsAt.get (l := rs) (o := o + 2) (i := i) (by simpa using hi) h.2
  exact ⟨cs, h1, fun j u hj => by rw [show o + (i + 1) * 2 + j = o + 2 + i * 2 + j from by omega]; exact h2 j u hj⟩
mutual
theorem Sd.ind {P : Sd → Prop} (h : ∀ n l, (∀ r ∈ l, P r) → P (.mk n l)) : ∀ r, P r
 | .mk n l => h n l (Sd.inds h l)
theorem Sd.inds {P : Sd → Prop} (h : ∀ n l, (∀ r ∈ l, P r) → P (.mk n l)) : ∀ l : List Sd, ∀ r ∈ l, P r
 | [] => fun r hr => by simp at hr
 | x :: xs => fun r hr => by
  rcases List.mem_cons.1 hr with e | e
  · rw [e]; exact Sd.ind h x
  · exact Sd.inds h xs r e
end
mutual
def smallV : Sd → Int → Option Int
 | .mk n l, m => if 3 < l.length then none else smallL l (m - 1)
def smallL : List Sd → Int → Option Int
 | [], m => if 0 ≤ m then some m else none
 | r :: rs, m => match smallV r m with
  | some k => if k < 0 then none else smallL rs k
  | none => none
end
mutual
def Sd.cnt : Sd → Nat
 | .mk _ l => 1 + Sd.cnts l
def Sd.cnts : List Sd → Nat
 | [] => 0
 | r :: rs => r.cnt + Sd.cnts rs
end
mutual
def Sd.ok : Sd → Prop
 | .mk _ l => l.length ≤ 3 ∧ Sd.oks l
def Sd.oks : List Sd → Prop
 | [] => True
 | r :: rs => r.ok ∧ Sd.oks rs
end
mutual
theorem smallV_ok : ∀ (r : Sd) (m k : Int), smallV r m = some k → r.ok ∧ k = m - r.cnt ∧ 0 ≤ k
 | .mk n l, m, k, h => by
  unfold smallV at h
  split at h
  · cases h
  · have h1 := smallL_ok l (m - 1) k h
    unfold Sd.ok Sd.cnt
    exact ⟨⟨by omega, h1.1⟩, by rw [h1.2.1]; omega, h1.2.2⟩
theorem smallL_ok : ∀ (l : List Sd) (m k : Int), smallL l m = some k → Sd.oks l ∧ k = m - Sd.cnts l ∧ 0 ≤ k
 | [], m, k, h => by
  unfold smallL at h
  split at h
  · rename_i h0
    injection h with h
    subst h
    unfold Sd.oks Sd.cnts
    exact ⟨trivial, by omega, h0⟩
  · cases h
 | r :: rs, m, k, h => by
  unfold smallL at h
  cases hv : smallV r m with
  | none => rw [hv] at h; cases h
  | some j =>
   rw [hv] at h
   simp only at h
   split at h
   · cases h
   · have h1 := smallV_ok r m j hv
     have h2 := smallL_ok rs j k h
     unfold Sd.oks Sd.cnts
     exact ⟨⟨h1.1, h2.1⟩, by rw [h2.2.1, h1.2.1]; omega, h2.2.2⟩
end
def On.len : On → Nat
 | .fin _ => 0
 | .pw _ _ r => 1 + r.len
theorem On.len_rest (a : On) : a.rest.len ≤ a.len := by
 cases a with
 | fin n => exact Nat.le_refl _
 | pw e c r => show r.len ≤ 1 + r.len; omega
theorem addE_len : ∀ (a b : On), (addE a b).len ≤ a.len + b.len
 | .fin m, .fin n => Nat.zero_le _
 | .fin m, .pw e c r => Nat.le_add_left _ _
 | .pw e c r, b => by
  rcases cmpE_ways e b.exp with h | h | h
  · rw [addE_lt h]; exact Nat.le_add_left _ _
  · rw [addE_eq h]
    have := b.len_rest
    show 1 + b.rest.len ≤ 1 + r.len + b.len
    by_cases h0 : b.rest.len = 0
    · omega
    · omega
  · rw [addE_gt h]
    have := addE_len r b
    show 1 + (addE r b).len ≤ 1 + r.len + b.len
    omega
theorem mulE_len (a : On) : ∀ b : On, (mulE a b).len ≤ a.len + b.len
 | .fin n => by
  by_cases hn : n = 0
  · subst hn; rw [mulE_zero_right]; exact Nat.zero_le _
  · cases a with
    | fin m => rw [mulE_fin]; exact Nat.zero_le _
    | pw e c r => rw [mulE_pf hn]; exact Nat.le_refl _
 | .pw e c r => by
  by_cases h0 : a = .fin 0
  · rw [h0, mulE_zero_left]; exact Nat.zero_le _
  · rw [mulE_pw h0]
    have := mulE_len a r
    show 1 + (mulE a r).len ≤ a.len + (1 + r.len)
    omega
theorem mulE_nd2 (a : On) : ∀ b : On, (mulE a b).nd ≤ a.nd + b.nd + b.len * a.exp.nd
 | .fin n => by
  have hp := a.nd_pos
  by_cases hn : n = 0
  · subst hn; rw [mulE_zero_right]; show 1 ≤ _; omega
  · cases a with
    | fin m => rw [mulE_fin]; show 1 ≤ _; omega
    | pw e c r => rw [mulE_pf hn]; show 3 + e.nd + r.nd ≤ 3 + e.nd + r.nd + _ + _; omega
 | .pw e c r => by
  have hp := a.nd_pos
  by_cases h0 : a = .fin 0
  · rw [h0, mulE_zero_left]; show 1 ≤ 1 + _ + _; omega
  · rw [mulE_pw h0]
    show 3 + (addE a.exp e).nd + (mulE a r).nd ≤ a.nd + (3 + e.nd + r.nd) + (1 + r.len) * a.exp.nd
    have h1 := addE_nd a.exp e
    have h3 := mulE_nd2 a r
    have h4 : (1 + r.len) * a.exp.nd = a.exp.nd + r.len * a.exp.nd := by rw [Nat.add_mul, Nat.one_mul]
    omega
theorem On.nd_rest (a : On) : a.rest.nd ≤ a.nd := by
 cases a with
 | fin n => exact Nat.le_refl _
 | pw e c r => show r.nd ≤ 3 + e.nd + r.nd; omega
structure On.sm (a : On) (N L K : Nat) : Prop where
 nf : a.nf
 nd : a.nd ≤ N
 len : a.len ≤ L
 bd : a.bd K
theorem On.sm.more {a : On} {N L K N' L' K' : Nat} (h : a.sm N L K) (h1 : N ≤ N') (h2 : L ≤ L') (h3 : K ≤ K') : a.sm N' L' K' :=
 ⟨h.nf, Nat.le_trans h.nd h1, Nat.le_trans h.len h2, h.bd.more h3⟩
theorem On.sm.add {a b : On} {N L K N' L' K' : Nat} (h : a.sm N L K) (h' : b.sm N' L' K') : (addE a b).sm (N + N') (L + L') (K + K') :=
 ⟨addE_nf _ _ h.nf h'.nf, Nat.le_trans (addE_nd _ _) (Nat.add_le_add h.nd h'.nd), Nat.le_trans (addE_len _ _) (Nat.add_le_add h.len h'.len), addE_bd h.bd h'.bd⟩
theorem On.sm.mul {a b : On} {N L K N' L' K' : Nat} (h : a.sm N L K) (h' : b.sm N' L' K') (hK : 1 ≤ K) (hK' : 1 ≤ K') : (mulE a b).sm (N + N' + L' * N) (L + L') (K * K' + K + K') := by
 refine ⟨mulE_nf h.nf _ h'.nf, ?_, Nat.le_trans (mulE_len _ _) (Nat.add_le_add h.len h'.len), mulE_bd h.bd hK hK' h'.bd⟩
 have h1 := mulE_nd2 a b
 have h2 : b.len * a.exp.nd ≤ L' * N := Nat.mul_le_mul h'.len (Nat.le_trans a.nd_exp h.nd)
 have h3 := h.nd
 have h4 := h'.nd
 omega

mutual
def madeE : Sd → On
 | .mk n l => madesE l (.fin (n % 5).toNat)
def madesE : List Sd → On → On
 | [], o => o
 | .mk n l :: rs, o => addE (.pw (addE (madesE l (.fin (n % 5).toNat)) (.fin 1)) (1 + (n % 3).toNat) (.fin 0)) (madesE rs o)
end
theorem madesE_cons (r : Sd) (rs : List Sd) (o : On) : madesE (r :: rs) o = addE (.pw (addE (madeE r) (.fin 1)) (1 + ((match r with | .mk n _ => n) % 3).toNat) (.fin 0)) (madesE rs o) := by
 cases r with
 | mk n l => rw [madesE, madeE]
theorem addE_one_nd : ∀ {a : On}, a.nf → (addE a (.fin 1)).nd ≤ a.nd
 | .fin m, _ => Nat.le_refl _
 | .pw e c r, h => by
  rw [addE_gt (cmpE_pos h.2.1)]
  have := addE_one_nd h.2.2.2.1
  show 3 + e.nd + _ ≤ 3 + e.nd + r.nd
  omega
theorem addE_one_nz (a : On) : addE a (.fin 1) ≠ .fin 0 := by
 cases a with
 | fin m => intro h; injection h with h; omega
 | pw e c r =>
  rcases cmpE_ways e (On.fin 1).exp with h | h | h
  · rw [addE_lt h]; intro h; injection h with h; omega
  · rw [addE_eq h]; exact nz_pw
  · rw [addE_gt h]; exact nz_pw
theorem pw_nf {e : On} (he : e.nf) (h : e ≠ .fin 0) {c : Nat} (hc : 1 ≤ c) : (On.pw e c (.fin 0)).nf := ⟨he, h, hc, trivial, by
 have := cmpE_pos h
 exact cmpE_flip.1 this⟩
theorem addE_pw_nd {e : On} {c : Nat} {o : On} : (addE (.pw e c (.fin 0)) o).nd ≤ 3 + e.nd + o.nd := by
 rcases cmpE_ways e o.exp with h | h | h
 · rw [addE_lt h]; omega
 · rw [addE_eq h]
   have := o.nd_rest
   show 3 + e.nd + o.rest.nd ≤ _
   omega
 · rw [addE_gt h]
   cases o with
   | fin n => show 3 + e.nd + 1 ≤ 3 + e.nd + 1; omega
   | pw e' c' r' => show 3 + e.nd + (addE (.fin 0) (.pw e' c' r')).nd ≤ _; rw [addE_zero_left]; omega
mutual
theorem madeE_sm : ∀ (r : Sd), r.ok → (madeE r).sm (4 * r.cnt - 3) 3 (7 * r.cnt)
 | .mk n l, h => by
  unfold Sd.ok at h
  have h2 := madesE_sm l h.2 (.fin (n % 5).toNat)
   ⟨trivial, Nat.le_refl 1, Nat.le_refl 0, show (n % 5).toNat ≤ 4 by omega⟩
  unfold madeE Sd.cnt
  exact h2.more (by omega) (by omega) (by omega)
theorem madesE_sm : ∀ (l : List Sd), Sd.oks l → ∀ o : On, o.sm 1 0 4 → (madesE l o).sm (1 + 4 * Sd.cnts l) l.length (4 + 7 * Sd.cnts l + l.length)
 | [], _, o, ho => by
  unfold madesE
  exact ho.more (by omega) (Nat.zero_le _) (by omega)
 | r :: rs, h, o, ho => by
  unfold Sd.oks at h
  have h1 := madeE_sm r h.1
  have h2 := madesE_sm rs h.2 o ho
  have hc : 1 ≤ r.cnt := by cases r with | mk n l => unfold Sd.cnt; omega
  have hcs : Sd.cnts (r :: rs) = r.cnt + Sd.cnts rs := by rw [Sd.cnts]
  rw [hcs]
  rw [madesE_cons]
  have e1 : (addE (madeE r) (.fin 1)).nf := addE_nf _ _ h1.nf trivial
  have e2 := addE_one_nd h1.nf
  have e3 : (addE (madeE r) (.fin 1)).bd (7 * r.cnt + 1) := addE_bd h1.bd (Nat.le_refl 1)
  generalize (match r with | .mk n _ => n) = n
  have hk : (n % 3).toNat ≤ 2 := by omega
  have p : (On.pw (addE (madeE r) (.fin 1)) (1 + (n % 3).toNat) (.fin 0)).nf := pw_nf e1 (addE_one_nz _) (by omega)
  have pb : (On.pw (addE (madeE r) (.fin 1)) (1 + (n % 3).toNat) (.fin 0)).bd (7 * r.cnt + 1) := ⟨e3, by omega, Nat.zero_le _⟩
  refine ⟨addE_nf _ _ p h2.nf, ?_, ?_, ?_⟩
  · have h3 := addE_pw_nd (e := addE (madeE r) (.fin 1)) (c := 1 + (n % 3).toNat) (o := madesE rs o)
    have h4 := h1.nd
    have h5 := h2.nd
    omega
  · have h3 := addE_len (.pw (addE (madeE r) (.fin 1)) (1 + (n % 3).toNat) (.fin 0)) (madesE rs o)
    have h5 := h2.len
    have h6 : (On.pw (addE (madeE r) (.fin 1)) (1 + (n % 3).toNat) (.fin 0)).len = 1 := rfl
    rw [List.length_cons]
    omega
  · have h3 := addE_bd pb h2.bd
    refine h3.more ?_
    rw [List.length_cons]
    omega
end
/-- The world holds the object o, whose last field is p. -/
def Hd (w : World) (o : Ob) (p : Value) : Prop := Pair w (Has w) o p
theorem Hd.below {w w' : World} {o : Ob} {p : Value} (h : Hd w o p) (hb : Below w.heap.size w w') : Hd w' o p :=
 (Pair.below h (In.has w) hb).more fun b hb' => Nat.lt_of_lt_of_le hb' hb.size
theorem Pair.hd {w : World} {S : Nat → Prop} {o : Ob} {p : Value} (h : Pair w S o p) (hS : In S w) : Hd w o p := h.more hS
/-- The call returned the object o; what was there before stands. -/
def RetH (w : World) (o : Ob) (e : Ending) (w' : World) : Prop := ∃ p, e = .returned (vO o p) ∧ Hd w' o p ∧ Below w.heap.size w w'
theorem RetO.h {w w' : World} {S : Nat → Prop} {o : Ob} {e : Ending} (h : RetO w S o e w') (hS : In S w) : RetH w o e w' := by
 obtain ⟨p, h1, h2, h3⟩ := h
 exact ⟨p, h1, h2.hd (hS.upto h3.size), h3⟩
theorem RetN.h {w w' : World} {q : Rat} {e : Ending} (h : RetN w q e w') : RetH w (.num q) e w' := ⟨.slice none 0 0, h.1, rfl, h.2⟩
theorem Hd.flat {w : World} {o : Ob} {p : Value} (h : Hd w o p) (ho : o.isCons = false) : p = .slice none 0 0 := Pair.flat h ho
/-- Block g is a box with these seven fields. -/
def Bx (W : World) (g : Nat) (x : Array Value) : Prop := W.heap[g]? = some (.cells x 35 (0, 0))
theorem Bx.below {W W' : World} {g B : Nat} {x : Array Value} (h : Bx W g x) (hb : Below B W W') (hg : g < B) : Bx W' g x := (hb.block g hg).trans h
theorem Bx.lt {W : World} {g : Nat} {x : Array Value} (h : Bx W g x) : g < W.heap.size := by
 rcases Nat.lt_or_ge g W.heap.size with hlt | hge
 · exact hlt
 · unfold Bx at h; rw [Array.getElem?_eq_none hge] at h; cases h
theorem Bx.keep {W W' : World} {g : Nat} {x : Array Value} (h : Bx W g x) (hb : Below W.heap.size W W') : Bx W' g x := h.below hb h.lt
theorem Bx.c {W : World} {g : Nat} {a0 a1 a2 a3 a4 a5 a6 : Value} (h : Bx W g #[a0, a1, a2, a3, a4, a5, a6]) :
 W.cell? ⟨g, 0, none⟩ = some a0 ∧ W.cell? ⟨g, 1, none⟩ = some a1 ∧ W.cell? ⟨g, 2, none⟩ = some a2 ∧ W.cell? ⟨g, 3, none⟩ = some a3 ∧ W.cell? ⟨g, 4, none⟩ = some a4 ∧ W.cell? ⟨g, 5, none⟩ = some a5 ∧ W.cell? ⟨g, 6, none⟩ = some a6 := (row7 h).1
def zeroC : Array Value := #[.int .i64 0, .string ⟨#[]⟩, .string ⟨#[]⟩, .string ⟨#[]⟩, .string ⟨#[]⟩, .string ⟨#[]⟩, .slice none 0 0]
def aO (w : World) (x : Array Value) : World := w.alloc (.cells x 35)
theorem aO_new (w : World) (x : Array Value) : Bx (aO w x) w.heap.size x := heap_alloc_new w _
theorem aO_size (w : World) (x : Array Value) : (aO w x).heap.size = w.heap.size + 1 := by unfold aO; simp
theorem aO_below (w : World) (x : Array Value) : Below w.heap.size w (aO w x) := Below.alloc (Below.refl _ _) (Nat.le_refl _) _
/-- One box, two, three, four, made one after another. -/
structure Bx1 (w W : World) (x0 : Array Value) : Prop where
 bel : Below w.heap.size w W
 b0 : Bx W w.heap.size x0
theorem Bx1.new (w : World) (x0 : Array Value) : Bx1 w (w.alloc (.cells x0 35)) x0 := ⟨aO_below w x0, aO_new w x0⟩
structure Bx2 (w W : World) (x0 x1 : Array Value) : Prop where
 bel : Below w.heap.size w W
 b0 : Bx W w.heap.size x0
 b1 : Bx W (w.heap.size + 1) x1
theorem Bx2.new (w : World) (x0 x1 : Array Value) : Bx2 w ((w.alloc (.cells x0 35)).alloc (.cells x1 35)) x0 x1 := by
 have h := aO_below (aO w x0) x1
 have s := aO_size w x0
 refine ⟨(aO_below w x0).trans (h.mono (by omega)), (aO_new w x0).below h (by omega), ?_⟩
 have := aO_new (aO w x0) x1
 rw [s] at this
 exact this
structure Bx3 (w W : World) (x0 x1 x2 : Array Value) : Prop where
 bel : Below w.heap.size w W
 b0 : Bx W w.heap.size x0
 b1 : Bx W (w.heap.size + 1) x1
 b2 : Bx W (w.heap.size + 1 + 1) x2
theorem Bx3.new (w : World) (x0 x1 x2 : Array Value) : Bx3 w (((w.alloc (.cells x0 35)).alloc (.cells x1 35)).alloc (.cells x2 35)) x0 x1 x2 := by
 have T := Bx2.new w x0 x1
 have h := aO_below (aO (aO w x0) x1) x2
 have s : (aO (aO w x0) x1).heap.size = w.heap.size + 1 + 1 := by rw [aO_size, aO_size]
 refine ⟨T.bel.trans (h.mono (by omega)), T.b0.below h (by omega), T.b1.below h (by omega), ?_⟩
 have := aO_new (aO (aO w x0) x1) x2
 rw [s] at this
 exact this
structure Bx4 (w W : World) (x0 x1 x2 x3 : Array Value) : Prop where
 bel : Below w.heap.size w W
 b0 : Bx W w.heap.size x0
 b1 : Bx W (w.heap.size + 1) x1
 b2 : Bx W (w.heap.size + 1 + 1) x2
 b3 : Bx W (w.heap.size + 1 + 1 + 1) x3
theorem Bx4.new (w : World) (x0 x1 x2 x3 : Array Value) : Bx4 w ((((w.alloc (.cells x0 35)).alloc (.cells x1 35)).alloc (.cells x2 35)).alloc (.cells x3 35)) x0 x1 x2 x3 := by
 have T := Bx3.new w x0 x1 x2
 have h := aO_below (aO (aO (aO w x0) x1) x2) x3
 have s : (aO (aO (aO w x0) x1) x2).heap.size = w.heap.size + 1 + 1 + 1 := by rw [aO_size, aO_size, aO_size]
 refine ⟨T.bel.trans (h.mono (by omega)), T.b0.below h (by omega), T.b1.below h (by omega), T.b2.below h (by omega), ?_⟩
 have := aO_new (aO (aO (aO w x0) x1) x2) x3
 rw [s] at this
 exact this
theorem Bx.set {W : World} {g : Nat} {x y : Array Value} (h : Bx W g x) : Bx (W.setRow g y) g y := setRow_heap _ _ _ _ _ _ h
theorem Bx.other {W : World} {g k : Nat} {x y : Array Value} (h : Bx W g x) (hk : g ≠ k) : Bx (W.setRow k y) g x := (setRow_other W k g y hk).trans h
theorem Bx3.n1 {w W : World} {x0 x1 x2 y : Array Value} (T : Bx3 w W x0 x1 x2) : Bx (W.setRow w.heap.size y) (w.heap.size + 1) x1 := T.b1.other (by omega)
theorem Bx3.n2 {w W : World} {x0 x1 x2 y y' : Array Value} (T : Bx3 w W x0 x1 x2) : Bx ((W.setRow w.heap.size y).setRow (w.heap.size + 1) y') (w.heap.size + 1 + 1) x2 := (T.b2.other (by omega)).other (by omega)
/-- Three boxes that have been made and filled: what 'parts' leaves. -/
structure Pt3 (w X : World) (o0 o1 o2 : Ob) (p0 p1 p2 : Value) : Prop where
 bel : Below w.heap.size w X
 b0 : Bx X w.heap.size (cellsO o0 p0).toArray
 b1 : Bx X (w.heap.size + 1) (cellsO o1 p1).toArray
 b2 : Bx X (w.heap.size + 1 + 1) (cellsO o2 p2).toArray
theorem Pt3.new {w : World} {o0 o1 o2 : Ob} {p0 p1 p2 : Value} {z0 z1 z2 : Array Value} :
 Pt3 w (World.setRow (World.setRow (World.setRow (((w.alloc (.cells z0 35)).alloc (.cells z1 35)).alloc (.cells z2 35)) w.heap.size (cellsO o0 p0).toArray) (w.heap.size + 1) (cellsO o1 p1).toArray) (w.heap.size + 1 + 1) (cellsO o2 p2).toArray) o0 o1 o2 p0 p1 p2 := by
 have T := Bx3.new w z0 z1 z2
 refine ⟨below_setRowO (below_setRowO (below_setRowO T.bel (Nat.le_refl _) _) (by omega) _) (by omega) _, ?_, ?_, ?_⟩
 · exact (T.b0.set.other (by omega)).other (by omega)
 · exact ((T.b1.other (by omega)).set).other (by omega)
 · exact ((T.b2.other (by omega)).other (by omega)).set
theorem vO_cells {o : Ob} {p x0 x1 x2 x3 x4 x5 : Value} (h : cellsO o p = [x0, x1, x2, x3, x4, x5, p]) : vO o p = .agg #[x0, x1, x2, x3, x4, x5, p] := by unfold vO; rw [h]
/-- A load of a whole object from its box. -/
theorem loadB {ops : Array Oper} {rest : List Oper} {o : Oper} {a : Act} {w : World} {Q : Exit → Act → World → Prop} {g : Nat} {b : Ob} {p : Value} (x : Operand) (ho : o.op = .load 35 x) (hgd : o.guard = none)
 (hx : a.eval x = .pointer (some ⟨g, 0, none⟩)) (hb : Bx w g (cellsO b p).toArray)
 (h : wpList Tryz.prog ops Q rest (a.put o.dst (vO b p)) w) : wpList Tryz.prog ops Q (o :: rest) a w :=
 wpList_load_row hgd 35 x ho g hx _ _ _ _ hb Tryz.underlying35 rfl (by rw [List.size_toArray, cellsO_length]; kernel_rfl) h
/-- The same under a guard that lets it run. -/
theorem loadG {ops : Array Oper} {rest : List Oper} {o : Oper} {a : Act} {w : World} {Q : Exit → Act → World → Prop} {g : Nat} {b : Ob} {p : Value} (x : Operand) (ho : o.op = .load 35 x) (hw : Region.wanted o (yielded ops a.tmps) = true)
 (hx : a.eval x = .pointer (some ⟨g, 0, none⟩)) (hb : Bx w g (cellsO b p).toArray)
 (h : wpList Tryz.prog ops Q rest (a.put o.dst (vO b p)) w) : wpList Tryz.prog ops Q (o :: rest) a w := by
 unfold wpList
 rw [if_pos hw]
 exact .inl (wp_load_row 35 x ho g hx _ _ _ _ hb Tryz.underlying35 rfl (by rw [List.size_toArray, cellsO_length]; kernel_rfl) h)
/-- A store into a box. -/
theorem storeB {ops : Array Oper} {rest : List Oper} {o : Oper} {a : Act} {w : World} {Q : Exit → Act → World → Prop} {g : Nat} {b : Ob} {p : Value} {x0 x1 x2 x3 x4 x5 x6 : Value} {w1 : World} (x y : Operand) (ho : o.op = .store 35 x y) (hgd : o.guard = none)
 (hx : a.eval x = .pointer (some ⟨g, 0, none⟩)) (hy : a.eval y = vO b p) (hp : Hd w1 b p) (hg : Bx w g #[x0, x1, x2, x3, x4, x5, x6])
 (h : wpList Tryz.prog ops Q rest (a.put o.dst undef) (w.setRow g (cellsO b p).toArray)) : wpList Tryz.prog ops Q (o :: rest) a w :=
 storeV hgd x y ho g b p hx hy hp _ _ hg rfl h
/-- The seven fields, each of its kind. -/
theorem cells_open {w : World} {S : Nat → Prop} {o : Ob} {p : Value} (h : Pair w S o p) : ∃ (k : Int) (s1 s2 s3 s4 s5 : ByteArray) (A : Option Addr) (n c : Nat),
 cellsO o p = [.int .i64 k, .string s1, .string s2, .string s3, .string s4, .string s5, .slice A n c] ∧ p = .slice A n c := by
 cases o with
 | num q => have e : p = .slice none 0 0 := h; subst e; exact ⟨_, _, _, _, _, _, _, _, _, rfl, rfl⟩
 | str s => have e : p = .slice none 0 0 := h; subst e; exact ⟨_, _, _, _, _, _, _, _, _, rfl, rfl⟩
 | sym x y => have e : p = .slice none 0 0 := h; subst e; exact ⟨_, _, _, _, _, _, _, _, _, rfl, rfl⟩
 | cons a d => obtain ⟨b, o, c, pa, pd, rfl, _⟩ := h; exact ⟨_, _, _, _, _, _, _, _, _, rfl, rfl⟩
theorem hI {p : Prop} (h : p) : Hid p := qh9 h
theorem lG {ops : Array Oper} {rest : List Oper} {o : Oper} {a : Act} {w : World} {Q : Exit → Act → World → Prop} {g : Nat} {b : Ob} {p : Value} (x : Operand) (hb : Bx w g (cellsO b p).toArray)
 (h : wpList Tryz.prog ops Q rest (a.put o.dst (vO b p)) w) (ho : o.op = .load 35 x := by with_unfolding_all rfl) (hw : Region.wanted o (yielded ops a.tmps) = true := by with_unfolding_all rfl)
 (hx : a.eval x = .pointer (some ⟨g, 0, none⟩) := by with_unfolding_all rfl) : wpList Tryz.prog ops Q (o :: rest) a w := loadG x ho hw hx hb h
theorem sB {ops : Array Oper} {rest : List Oper} {o : Oper} {a : Act} {w : World} {Q : Exit → Act → World → Prop} {g : Nat} {b : Ob} {p : Value} {x0 x1 x2 x3 x4 x5 x6 : Value} {w1 : World} (x y : Operand) (hp : Hd w1 b p) (hg : Bx w g #[x0, x1, x2, x3, x4, x5, x6])
 (h : wpList Tryz.prog ops Q rest (a.put o.dst undef) (w.setRow g (cellsO b p).toArray)) (ho : o.op = .store 35 x y := by with_unfolding_all rfl) (hgd : o.guard = none := by with_unfolding_all rfl)
 (hx : a.eval x = .pointer (some ⟨g, 0, none⟩) := by with_unfolding_all rfl) (hy : a.eval y = vO b p := by with_unfolding_all rfl) : wpList Tryz.prog ops Q (o :: rest) a w := storeB x y ho hgd hx hy hp hg h
theorem kB {W W' : World} {g : Nat} {x : Array Value} (h : Hid (Bx W g x)) (hb : Below W.heap.size W W') : Hid (Bx W' g x) := qh9 (h.out.keep hb)
theorem kH {w w' : World} {o : Ob} {p : Value} (h : Hid (Hd w o p)) (hb : Below w.heap.size w w') : Hid (Hd w' o p) := qh9 (h.out.below hb)
theorem kT {w w' : World} (h : Hid (Tab w)) (hb : Below w.heap.size w w') : Hid (Tab w') := qh9 (h.out.below hb)
theorem kW {w w1 w2 : World} (h : Hid (Below w.heap.size w w1)) (hb : Below w1.heap.size w1 w2) : Hid (Below w.heap.size w w2) := qc9 h hb
section
variable {P : Program} {Q : Exit → Act → World → Prop} {ops : Array Oper} {K : Act → World → Prop} {a : Act} {w : World} {i : Nat} {o : Oper}
theorem gr_t (ho : ops[i]? = some o) (hg : o.guard = none) (f : FuncId) (s0 : Tmp) (v0 : Value) (ts : Array TypeId) (hop : o.op = Op.call { callee := Callee.value (Operand.func f), args := #[.tmp s0], argTypes := ts }) (hf : ∀ (v0 : Value) (w : World), (callFunc f #[v0]).run P w = .ok (.enter f #[v0]) w)
 (h0 : a.tmps[s0]? = some v0)
 (hc : Calls P f #[v0] w fun e w' => ∃ r, e = .returned r ∧ K (a.put o.dst r) w') : wpOp P ops Q i K a w :=
 wpOp_step ho fun K' hK' => by
  rw [if_pos (wanted_plain hg)]
  unfold Oper.wp
  simp only [execOp, hop]
  go_simp
  refine hc.mono ?_
  rintro e w' ⟨r, rfl, h⟩
  exact hK' _ _ h
theorem gr_c (ho : ops[i]? = some o) (hg : o.guard = none) (f : FuncId)  (v0 : Value) (ts : Array TypeId) (hop : o.op = Op.call { callee := Callee.value (Operand.func f), args := #[.const v0], argTypes := ts }) (hf : ∀ (v0 : Value) (w : World), (callFunc f #[v0]).run P w = .ok (.enter f #[v0]) w)

 (hc : Calls P f #[v0] w fun e w' => ∃ r, e = .returned r ∧ K (a.put o.dst r) w') : wpOp P ops Q i K a w :=
 wpOp_step ho fun K' hK' => by
  rw [if_pos (wanted_plain hg)]
  unfold Oper.wp
  simp only [execOp, hop]
  go_simp
  refine hc.mono ?_
  rintro e w' ⟨r, rfl, h⟩
  exact hK' _ _ h
theorem gr_tt (ho : ops[i]? = some o) (hg : o.guard = none) (f : FuncId) (s0 : Tmp) (s1 : Tmp) (v0 v1 : Value) (ts : Array TypeId) (hop : o.op = Op.call { callee := Callee.value (Operand.func f), args := #[.tmp s0, .tmp s1], argTypes := ts }) (hf : ∀ (v0 v1 : Value) (w : World), (callFunc f #[v0, v1]).run P w = .ok (.enter f #[v0, v1]) w)
 (h0 : a.tmps[s0]? = some v0) (h1 : a.tmps[s1]? = some v1)
 (hc : Calls P f #[v0, v1] w fun e w' => ∃ r, e = .returned r ∧ K (a.put o.dst r) w') : wpOp P ops Q i K a w :=
 wpOp_step ho fun K' hK' => by
  rw [if_pos (wanted_plain hg)]
  unfold Oper.wp
  simp only [execOp, hop]
  go_simp
  refine hc.mono ?_
  rintro e w' ⟨r, rfl, h⟩
  exact hK' _ _ h
theorem gr_tc (ho : ops[i]? = some o) (hg : o.guard = none) (f : FuncId) (s0 : Tmp) (v0 v1 : Value) (ts : Array TypeId) (hop : o.op = Op.call { callee := Callee.value (Operand.func f), args := #[.tmp s0, .const v1], argTypes := ts }) (hf : ∀ (v0 v1 : Value) (w : World), (callFunc f #[v0, v1]).run P w = .ok (.enter f #[v0, v1]) w)
 (h0 : a.tmps[s0]? = some v0)
 (hc : Calls P f #[v0, v1] w fun e w' => ∃ r, e = .returned r ∧ K (a.put o.dst r) w') : wpOp P ops Q i K a w :=
 wpOp_step ho fun K' hK' => by
  rw [if_pos (wanted_plain hg)]
  unfold Oper.wp
  simp only [execOp, hop]
  go_simp
  refine hc.mono ?_
  rintro e w' ⟨r, rfl, h⟩
  exact hK' _ _ h
theorem gr_ttt (ho : ops[i]? = some o) (hg : o.guard = none) (f : FuncId) (s0 : Tmp) (s1 : Tmp) (s2 : Tmp) (v0 v1 v2 : Value) (ts : Array TypeId) (hop : o.op = Op.call { callee := Callee.value (Operand.func f), args := #[.tmp s0, .tmp s1, .tmp s2], argTypes := ts }) (hf : ∀ (v0 v1 v2 : Value) (w : World), (callFunc f #[v0, v1, v2]).run P w = .ok (.enter f #[v0, v1, v2]) w)
 (h0 : a.tmps[s0]? = some v0) (h1 : a.tmps[s1]? = some v1) (h2 : a.tmps[s2]? = some v2)
 (hc : Calls P f #[v0, v1, v2] w fun e w' => ∃ r, e = .returned r ∧ K (a.put o.dst r) w') : wpOp P ops Q i K a w :=
 wpOp_step ho fun K' hK' => by
  rw [if_pos (wanted_plain hg)]
  unfold Oper.wp
  simp only [execOp, hop]
  go_simp
  refine hc.mono ?_
  rintro e w' ⟨r, rfl, h⟩
  exact hK' _ _ h
theorem gr_move (ho : ops[i]? = some o) (hg : o.guard = none) (s : Tmp) (v : Value) (hop : o.op = Op.move (.tmp s)) (hx : a.tmps[s]? = some v) (hK : K (a.put o.dst v) w) : wpOp P ops Q i K a w :=
 wpOp_step ho fun K' hK' => by
  rw [if_pos (wanted_plain hg)]
  unfold Oper.wp
  simp only [execOp, hop]
  go_simp
  exact hK' _ _ hK
theorem gr_ext2 (ho : ops[i]? = some o) (hg : o.guard = none) (s : Tmp) (u v : Value) (hop : o.op = Op.extract (.tmp s) 0) (hx : a.tmps[s]? = some (.tuple #[u, v])) (hK : K (a.put o.dst u) w) : wpOp P ops Q i K a w :=
 wpOp_step ho fun K' hK' => by
  rw [if_pos (wanted_plain hg)]
  unfold Oper.wp
  simp only [execOp, hop]
  go_simp
  exact hK' _ _ hK
theorem gr_ext2' (ho : ops[i]? = some o) (hg : o.guard = none) (s : Tmp) (u v : Value) (hop : o.op = Op.extract (.tmp s) 1) (hx : a.tmps[s]? = some (.tuple #[u, v])) (hK : K (a.put o.dst v) w) : wpOp P ops Q i K a w :=
 wpOp_step ho fun K' hK' => by
  rw [if_pos (wanted_plain hg)]
  unfold Oper.wp
  simp only [execOp, hop]
  go_simp
  exact hK' _ _ hK
theorem gr_load (ho : ops[i]? = some o) (hg : o.guard = none) (ty : TypeId) (x : Operand) (hop : o.op = .load ty x) (g : Nat) (hx : a.eval x = .pointer (some ⟨g, 0, none⟩)) (cs : Array Value) (t : TypeId) (fr : Nat × Nat) (d : TypeDesc) (hc : w.heap[g]? = some (.cells cs t fr))
 (hu : P.underlying ty = some d) (hd : (match d with | .struct _ | .array _ _ => true | _ => false) = true) (hi : (P.info? ty).map (·.size) = some cs.size) (hK : K (a.put o.dst (.agg cs)) w) : wpOp P ops Q i K a w :=
 wpOp_step ho fun K' hK' => by
  rw [if_pos (wanted_plain hg)]
  exact wp_load_row ty x hop g hx t cs fr d hc hu hd hi (hK' _ _ hK)
end

theorem gr_box {Q : Exit → Act → World → Prop} {ops : Array Oper} {K : Act → World → Prop} {a : Act} {w : World} {i : Nat} {o : Oper} (ho : ops[i]? = some o) (hg : o.guard = none) (x : Operand) (hop : o.op = .load 35 x) {g : Nat} {b : Ob} {p : Value} (hx : a.eval x = .pointer (some ⟨g, 0, none⟩)) (hb : Bx w g (cellsO b p).toArray)
 (hK : K (a.put o.dst (vO b p)) w) : wpOp Tryz.prog ops Q i K a w :=
 gr_load ho hg 35 x hop g hx _ _ _ _ hb Tryz.underlying35 rfl (by rw [List.size_toArray, cellsO_length]; kernel_rfl) hK
abbrev Lv := Value → Nat → Nat → World → Prop
def Mon (f : Lv) : Prop := ∀ (v : Value) (lo hi : Nat) (w w' : World), f v lo hi w → hi ≤ w.heap.size → Below w.heap.size w w' → f v lo hi w'
def LV (u : Value) : Lv := fun v _ _ _ => v = u
def LH (o : Ob) : Lv := fun v _ _ w => ∃ p, v = vO o p ∧ Hd w o p
def LHB (o : Ob) (b : Bool) : Lv := fun v _ _ w => ∃ p, v = .tuple #[vO o p, .bool b] ∧ Hd w o p
def LBx : Lv := fun v lo hi w => v = .pointer (some ⟨lo, 0, none⟩) ∧ Bx w lo zeroC ∧ lo < hi
theorem mLV (u : Value) : Mon (LV u) := fun _ _ _ _ _ h _ _ => h
theorem mLH (o : Ob) : Mon (LH o) := fun _ _ _ _ _ ⟨p, h, k⟩ _ hb => ⟨p, h, k.below hb⟩
theorem mLHB (o : Ob) (b : Bool) : Mon (LHB o b) := fun _ _ _ _ _ ⟨p, h, k⟩ _ hb => ⟨p, h, k.below hb⟩
theorem mLBx : Mon LBx := fun _ _ _ _ _ ⟨h, k, l⟩ hm hb => ⟨h, k.below hb (by omega), l⟩
def Mons : List Lv → Prop
 | [] => True
 | f :: l => Mon f ∧ Mons l
def LR (l : List Lv) (i : Nat) : Lv := l.getD i (fun _ _ _ _ => True)
theorem LR_mono : ∀ {l : List Lv}, Mons l → ∀ (i : Nat) (x : Value) (l' m : Nat) (w w' : World), LR l i x l' m w → m ≤ w.heap.size → Below w.heap.size w w' → LR l i x l' m w'
 | [], _, i, x, l', m, w, w', h, _, _ => by unfold LR; simp
 | f :: l, ⟨hf, hl⟩, 0, x, l', m, w, w', h, hm, hb => hf x l' m w w' h hm hb
 | f :: l, ⟨hf, hl⟩, i + 1, x, l', m, w, w', h, hm, hb => LR_mono hl i x l' m w w' h hm hb
theorem Pair.box {w : World} {S : Nat → Prop} {g : Nat} {x : Array Value} (hg : Bx w g x) (hx : x.size = 7) (y : Array Value) : ∀ {o : Ob} {p : Value}, Pair w S o p → Pair (w.setRow g y) S o p
 | .num _, _, h => h
 | .str _, _, h => h
 | .sym _ _, _, h => h
 | .cons a d, p, ⟨b, o, c, pa, pd, h1, h2, h3, h4, h5, h6⟩ => by
  have hne : ¬ b = g := by
   rintro rfl
   have hl : 13 < (cellsO a pa ++ cellsO d pd).length := by rw [List.length_append, cellsO_length, cellsO_length]; omega
   have := h4 13 _ (List.getElem?_eq_getElem hl)
   rw [cell_of_row _ _ _ _ _ _ hg, Array.getElem?_eq_none (by omega)] at this
   cases this
  have hk : (w.setRow g y).heap[b]? = w.heap[b]? := setRow_other w g b y hne
  exact ⟨b, o, c, pa, pd, h1, h2, ⟨h3.1, h3.2.keep hk⟩, fun j u hj => (World.cell?_of_block (a := ⟨b, o + j, none⟩) hk).trans (h4 j u hj), Pair.box hg hx y h5, Pair.box hg hx y h6⟩
theorem Hd.box {w : World} {g : Nat} {x : Array Value} {o : Ob} {p : Value} (h : Hd w o p) (hg : Bx w g x) (hx : x.size = 7) (y : Array Value) : Hd (w.setRow g y) o p :=
 (Pair.box hg hx y h).more fun b hb => by unfold Has at hb ⊢; rw [size_setRow]; exact hb
def RetHB (w : World) (o : Ob) (b : Bool) (e : Ending) (w' : World) : Prop := ∃ p, e = .returned (.tuple #[vO o p, .bool b]) ∧ Hd w' o p ∧ Below w.heap.size w w'
theorem retH {fn : Func} {q : Tmp} {w0 w : World} {tmps : Array Value} {g : Nat} {o : Ob} {p : Value} (h : fn.results = #[.cell q 35]) (hq : tmps.getD q undef = .pointer (some ⟨g, 0, none⟩))
 (hg : Bx w g (cellsO o p).toArray) (hp : Hd w o p) (hb : Below w0.heap.size w0 w) : bodyPost Tryz.prog fn (RetH w0 o) Exit.ret ⟨tmps, []⟩ w :=
 retO h hq hg (by rw [List.size_toArray, cellsO_length]) ⟨p, rfl, hp, hb⟩
theorem retHs {fn : Func} {q : Tmp} {w0 w : World} {tmps : Array Value} {g : Nat} {o : Ob} {p : Value} {x : Array Value} (h : fn.results = #[.cell q 35]) (hq : tmps.getD q undef = .pointer (some ⟨g, 0, none⟩))
 (hg : Bx w g x) (hx : x.size = 7) (hp : Hd w o p) (hlt : w0.heap.size ≤ g) (hb : Below w0.heap.size w0 w) : bodyPost Tryz.prog fn (RetH w0 o) Exit.ret ⟨tmps, []⟩ (w.setRow g (cellsO o p).toArray) :=
 retH h hq hg.set (hp.box hg hx _) (below_setRowO hb hlt _)
theorem consH (a d : Ob) (pa pd : Value) (w : World) (ha : Hd w a pa) (hd : Hd w d pd) :
 Calls Tryz.prog 66 #[vO a pa, vO d pd] w (RetH w (.cons a d)) := (consP a d pa pd w (Has w) (In.has w) ha hd).mono fun _ _ h => h.h (In.has w)
theorem consRH (a d : Ob) (pa pd : Value) (w : World) (ha : Hd w a pa) (hd : Hd w d pd) :
 Calls Tryz.prog 26 #[vO a pa, vO d pd] w (RetH w (.cons a d)) := (consO a d pa pd w (Has w) (In.has w) ha hd).mono fun _ _ h => h.h (In.has w)
theorem powerP (e c r : Ob) (pe pc pr : Value) (w : World) (he : Hd w e pe) (hc : Hd w c pc) (hr : Hd w r pr) :
 Calls Tryz.prog 42 #[vO e pe, vO c pc, vO r pr] w (RetH w (.cons (.cons e c) r)) := by
 obtain ⟨x0, x1, x2, x3, x4, x5, ex⟩ := cells7 e pe
 obtain ⟨y0, y1, y2, y3, y4, y5, ey⟩ := cells7 c pc
 obtain ⟨z0, z1, z2, z3, z4, z5, ez⟩ := cells7 r pr
 have T := Bx4.new w #[x0, x1, x2, x3, x4, x5, pe] #[y0, y1, y2, y3, y4, y5, pc] #[z0, z1, z2, z3, z4, z5, pr] #[.int .i64 0, .string ⟨#[]⟩, .string ⟨#[]⟩, .string ⟨#[]⟩, .string ⟨#[]⟩, .string ⟨#[]⟩, .slice none 0 0]
 rw [vO_cells ex, vO_cells ey, vO_cells ez]
 go_enter Tryz.func42, Tryz.ntmps42
 go_wp2_with fail
 generalize (((w.alloc (.cells #[x0, x1, x2, x3, x4, x5, pe] 35)).alloc (.cells #[y0, y1, y2, y3, y4, y5, pc] 35)).alloc (.cells #[z0, z1, z2, z3, z4, z5, pr] 35)).alloc (.cells #[.int .i64 0, .string ⟨#[]⟩, .string ⟨#[]⟩, .string ⟨#[]⟩, .string ⟨#[]⟩, .string ⟨#[]⟩, .slice none 0 0] 35) = W at T ⊢
 have B0 : Hid (Bx W w.heap.size (cellsO e pe).toArray) := by rw [ex]; exact T.b0
 have B1 : Hid (Bx W (w.heap.size + 1) (cellsO c pc).toArray) := by rw [ey]; exact T.b1
 have B2 : Hid (Bx W (w.heap.size + 1 + 1) (cellsO r pr).toArray) := by rw [ez]; exact T.b2
 have B3 := hI T.b3
 have HW := hI T.bel
 have KE := hI (he.below T.bel)
 have KC := hI (hc.below T.bel)
 have KR := hI (hr.below T.bel)
 clear T he hc hr ex ey ez
 refine wp_region_grow (l := _) 5 (by kernel_rfl) (by kernel_rfl) (fun i => [7, 8, 9, 10, 11].getD i 0) (LR [LV (vO e pe), LV (vO c pc), LH (.cons e c), LV (vO r pr), LH (.cons (.cons e c) r)]) (LR_mono ⟨mLV _, mLV _, mLH _, mLV _, mLH _, trivial⟩) (by
  intro i j hi hj h
  exact inj_getD [7, 8, 9, 10, 11] (by decide) i j hi hj h) (by
  intro i hi
  exact lt_getD 12 [7, 8, 9, 10, 11] (by decide) i hi) ?step ?done
 case step =>
  intro i hi a w9 v lo hi' hoth hb hw
  have sl3 : a.tmps[3]? = some (.pointer (some ⟨w.heap.size, 0, none⟩)) := (hoth 3 (fun j hj => ne_getD 3 _ (by decide) j hj)).trans rfl
  have sl4 : a.tmps[4]? = some (.pointer (some ⟨w.heap.size + 1, 0, none⟩)) := (hoth 4 (fun j hj => ne_getD 4 _ (by decide) j hj)).trans rfl
  have sl5 : a.tmps[5]? = some (.pointer (some ⟨w.heap.size + 1 + 1, 0, none⟩)) := (hoth 5 (fun j hj => ne_getD 5 _ (by decide) j hj)).trans rfl
  match i, hi with
  | 0, _ =>
   exact gr_box rfl rfl (.tmp 3) rfl (eval_of sl3) (B0.out.keep hb) ⟨_, rfl, Below.refl _ _, rfl⟩
  | 1, _ =>
   exact gr_box rfl rfl (.tmp 4) rfl (eval_of sl4) (B1.out.keep hb) ⟨_, rfl, Below.refl _ _, rfl⟩
  | 2, _ =>
   obtain ⟨s0, r0, _⟩ := hw 0 (by omega) (by kernel_rfl)
   have e0 : v 0 = vO e pe := r0
   rw [e0] at s0
   obtain ⟨s1, r1, _⟩ := hw 1 (by omega) (by kernel_rfl)
   have e1 : v 1 = vO c pc := r1
   rw [e1] at s1
   refine gr_tt rfl rfl 66 7 8 _ _ _ rfl (fun v u w => by go_simp) s0 s1 ?_
   refine (consH e c pe pc w9 (KE.out.below hb) (KC.out.below hb)).mono ?_
   rintro e w3 ⟨p, rfl, hp, hb3⟩
   exact ⟨_, rfl, _, rfl, hb3, p, rfl, hp⟩
  | 3, _ =>
   exact gr_box rfl rfl (.tmp 5) rfl (eval_of sl5) (B2.out.keep hb) ⟨_, rfl, Below.refl _ _, rfl⟩
  | 4, _ =>
   obtain ⟨s0, r0, _⟩ := hw 2 (by omega) (by kernel_rfl)
   obtain ⟨q0, e0, k0⟩ : LH (.cons e c) (v 2) (lo 2) (hi' 2) w9 := r0
   rw [e0] at s0
   obtain ⟨s1, r1, _⟩ := hw 3 (by omega) (by kernel_rfl)
   have e1 : v 3 = vO r pr := r1
   rw [e1] at s1
   refine gr_tt rfl rfl 66 9 10 _ _ _ rfl (fun v u w => by go_simp) s0 s1 ?_
   refine (consH (.cons e c) r q0 pr w9 k0 (KR.out.below hb)).mono ?_
   rintro e w3 ⟨p, rfl, hp, hb3⟩
   exact ⟨_, rfl, _, rfl, hb3, p, rfl, hp⟩
 case done =>
  intro a w9 v lo hi' hdef hsz hoth hb hj hap
  obtain ⟨_, ⟨p, hv4, hp⟩, hlo4, hhi4⟩ := hj 4 (by omega)
  have ha := eq_puts hdef hsz hoth (fun i hi => (hj i hi).1)
  subst ha
  clear hj hoth hdef hsz hap
  simp only [puts, List.getD_cons_zero, List.getD_cons_succ, hv4]
  generalize v 0 = v0
  generalize v 1 = v1
  generalize v 2 = v2
  generalize v 3 = v3
  clear hv4
  simp only [Act.put, List.setIfInBounds_toArray, List.set_cons_zero, List.set_cons_succ]
  show wpList _ _ _ [_] _ _
  have B39 := hI (B3.out.keep hb)
  have HW9 := hI (chain2 HW.out hb (Nat.le_refl _))
  go_wp2_with (refine storeB (w1 := w9) (.tmp 6) (.tmp 11) rfl rfl rfl rfl hp B39.out ?_)
  exact retHs rfl rfl B39.out rfl hp (by omega) HW9.out
theorem powerR (e c r : Ob) (pe pc pr : Value) (w : World) (he : Hd w e pe) (hc : Hd w c pc) (hr : Hd w r pr) :
 Calls Tryz.prog 61 #[vO e pe, vO c pc, vO r pr] w (RetH w (.cons (.cons e c) r)) := by
 obtain ⟨x0, x1, x2, x3, x4, x5, ex⟩ := cells7 e pe
 obtain ⟨y0, y1, y2, y3, y4, y5, ey⟩ := cells7 c pc
 obtain ⟨z0, z1, z2, z3, z4, z5, ez⟩ := cells7 r pr
 have T := Bx4.new w #[x0, x1, x2, x3, x4, x5, pe] #[y0, y1, y2, y3, y4, y5, pc] #[z0, z1, z2, z3, z4, z5, pr] #[.int .i64 0, .string ⟨#[]⟩, .string ⟨#[]⟩, .string ⟨#[]⟩, .string ⟨#[]⟩, .string ⟨#[]⟩, .slice none 0 0]
 rw [vO_cells ex, vO_cells ey, vO_cells ez]
 go_enter Tryz.func61, Tryz.ntmps61
 go_wp2_with fail
 generalize (((w.alloc (.cells #[x0, x1, x2, x3, x4, x5, pe] 35)).alloc (.cells #[y0, y1, y2, y3, y4, y5, pc] 35)).alloc (.cells #[z0, z1, z2, z3, z4, z5, pr] 35)).alloc (.cells #[.int .i64 0, .string ⟨#[]⟩, .string ⟨#[]⟩, .string ⟨#[]⟩, .string ⟨#[]⟩, .string ⟨#[]⟩, .slice none 0 0] 35) = W at T ⊢
 have B0 : Hid (Bx W w.heap.size (cellsO e pe).toArray) := by rw [ex]; exact T.b0
 have B1 : Hid (Bx W (w.heap.size + 1) (cellsO c pc).toArray) := by rw [ey]; exact T.b1
 have B2 : Hid (Bx W (w.heap.size + 1 + 1) (cellsO r pr).toArray) := by rw [ez]; exact T.b2
 have B3 := hI T.b3
 have HW := hI T.bel
 have KE := hI (he.below T.bel)
 have KC := hI (hc.below T.bel)
 have KR := hI (hr.below T.bel)
 clear T he hc hr ex ey ez
 refine wp_region_grow (l := _) 5 (by kernel_rfl) (by kernel_rfl) (fun i => [7, 8, 9, 10, 11].getD i 0) (LR [LV (vO e pe), LV (vO c pc), LH (.cons e c), LV (vO r pr), LH (.cons (.cons e c) r)]) (LR_mono ⟨mLV _, mLV _, mLH _, mLV _, mLH _, trivial⟩) (by
  intro i j hi hj h
  exact inj_getD [7, 8, 9, 10, 11] (by decide) i j hi hj h) (by
  intro i hi
  exact lt_getD 12 [7, 8, 9, 10, 11] (by decide) i hi) ?step ?done
 case step =>
  intro i hi a w9 v lo hi' hoth hb hw
  have sl3 : a.tmps[3]? = some (.pointer (some ⟨w.heap.size, 0, none⟩)) := (hoth 3 (fun j hj => ne_getD 3 _ (by decide) j hj)).trans rfl
  have sl4 : a.tmps[4]? = some (.pointer (some ⟨w.heap.size + 1, 0, none⟩)) := (hoth 4 (fun j hj => ne_getD 4 _ (by decide) j hj)).trans rfl
  have sl5 : a.tmps[5]? = some (.pointer (some ⟨w.heap.size + 1 + 1, 0, none⟩)) := (hoth 5 (fun j hj => ne_getD 5 _ (by decide) j hj)).trans rfl
  match i, hi with
  | 0, _ =>
   exact gr_box rfl rfl (.tmp 3) rfl (eval_of sl3) (B0.out.keep hb) ⟨_, rfl, Below.refl _ _, rfl⟩
  | 1, _ =>
   exact gr_box rfl rfl (.tmp 4) rfl (eval_of sl4) (B1.out.keep hb) ⟨_, rfl, Below.refl _ _, rfl⟩
  | 2, _ =>
   obtain ⟨s0, r0, _⟩ := hw 0 (by omega) (by kernel_rfl)
   have e0 : v 0 = vO e pe := r0
   rw [e0] at s0
   obtain ⟨s1, r1, _⟩ := hw 1 (by omega) (by kernel_rfl)
   have e1 : v 1 = vO c pc := r1
   rw [e1] at s1
   refine gr_tt rfl rfl 26 7 8 _ _ _ rfl (fun v u w => by go_simp) s0 s1 ?_
   refine (consRH e c pe pc w9 (KE.out.below hb) (KC.out.below hb)).mono ?_
   rintro e w3 ⟨p, rfl, hp, hb3⟩
   exact ⟨_, rfl, _, rfl, hb3, p, rfl, hp⟩
  | 3, _ =>
   exact gr_box rfl rfl (.tmp 5) rfl (eval_of sl5) (B2.out.keep hb) ⟨_, rfl, Below.refl _ _, rfl⟩
  | 4, _ =>
   obtain ⟨s0, r0, _⟩ := hw 2 (by omega) (by kernel_rfl)
   obtain ⟨q0, e0, k0⟩ : LH (.cons e c) (v 2) (lo 2) (hi' 2) w9 := r0
   rw [e0] at s0
   obtain ⟨s1, r1, _⟩ := hw 3 (by omega) (by kernel_rfl)
   have e1 : v 3 = vO r pr := r1
   rw [e1] at s1
   refine gr_tt rfl rfl 26 9 10 _ _ _ rfl (fun v u w => by go_simp) s0 s1 ?_
   refine (consRH (.cons e c) r q0 pr w9 k0 (KR.out.below hb)).mono ?_
   rintro e w3 ⟨p, rfl, hp, hb3⟩
   exact ⟨_, rfl, _, rfl, hb3, p, rfl, hp⟩
 case done =>
  intro a w9 v lo hi' hdef hsz hoth hb hj hap
  obtain ⟨_, ⟨p, hv4, hp⟩, hlo4, hhi4⟩ := hj 4 (by omega)
  have ha := eq_puts hdef hsz hoth (fun i hi => (hj i hi).1)
  subst ha
  clear hj hoth hdef hsz hap
  simp only [puts, List.getD_cons_zero, List.getD_cons_succ, hv4]
  generalize v 0 = v0
  generalize v 1 = v1
  generalize v 2 = v2
  generalize v 3 = v3
  clear hv4
  simp only [Act.put, List.setIfInBounds_toArray, List.set_cons_zero, List.set_cons_succ]
  show wpList _ _ _ [_] _ _
  have B39 := hI (B3.out.keep hb)
  have HW9 := hI (chain2 HW.out hb (Nat.le_refl _))
  go_wp2_with (refine storeB (w1 := w9) (.tmp 6) (.tmp 11) rfl rfl rfl rfl hp B39.out ?_)
  exact retHs rfl rfl B39.out rfl hp (by omega) HW9.out
def fmtE (e : On) (t : List UInt8) : List UInt8 := match e with
 | .fin k => if k = 1 then [] else 94 :: t
 | .pw _ _ _ => 94 :: 40 :: (t ++ [41])
def fmt : On → List UInt8
 | .fin n => text (n : Int)
 | .pw e c r => 119 :: (fmtE e (fmt e) ++ ((if c = 1 then [] else 42 :: text (c : Int)) ++ (if r = .fin 0 then [] else 32 :: 43 :: 32 :: fmt r)))
theorem strCells_LA (s : ByteArray) : Lib.strCells s = cb (LA s) := rfl
theorem cb_append (l m : List UInt8) : cb (l ++ m) = cb l ++ cb m := by unfold cb; rw [List.map_append]
structure Kp (B : Nat) (w w' : World) : Prop where
 bel : Below B w w'
 keep : ∀ k, k < w.heap.size → (∀ cur fr, w.heap[k]? ≠ some (.cells cur 5 fr)) → w'.heap[k]? = w.heap[k]?
theorem Kp.trans {B : Nat} {a b c : World} (h : Kp B a b) (h' : Kp B b c) : Kp B a c :=
 ⟨h.bel.trans h'.bel, fun k hk hn => by
  have e := h.keep k hk hn
  exact (h'.keep k (Nat.lt_of_lt_of_le hk h.bel.size) (fun cur fr he => hn cur fr (e ▸ he))).trans e⟩
theorem Kp.of {B : Nat} {a b : World} (h : Below a.heap.size a b) (hB : B ≤ a.heap.size) : Kp B a b := ⟨h.mono hB, fun k hk _ => h.block k hk⟩
theorem Kp.refl (B : Nat) (w : World) : Kp B w w := ⟨Below.refl _ _, fun _ _ _ => rfl⟩
theorem Kp.next {B : Nat} {w a b : World} (h : Kp B w a) (hb : Below a.heap.size a b) (hB : B ≤ w.heap.size) : Kp B w b := h.trans (Kp.of hb (Nat.le_trans hB h.bel.size))
theorem OwnB.grown {w w' : World} {B : Nat} {v : Value} {l : List UInt8} (h : OwnB w B v l) (hg : w.grownBy w' v.ownBlock) (hB : B ≤ w.heap.size) : Kp B w w' := by
 have hlt : ∀ k, v.ownBlock = some k → B ≤ k := fun k hk => (h.row.lt k hk).1
 refine ⟨(Below.refl B w).grown hg hB hlt, fun k hk hn => hg.block k hk ?_⟩
 intro e
 rcases h.2 with ⟨rfl, _⟩ | ⟨g, cap, cur, rfl, _, hh, _⟩
 · cases e
 · injection e with e
   exact hn cur (0, 0) (e ▸ hh)
theorem OwnB.kept {w w' : World} {B : Nat} {v : Value} {l : List UInt8} (h : OwnB w B v l) (hb : Below w.heap.size w w') : OwnB w' B v l := by
 refine ⟨h.1, ?_⟩
 rcases h.2 with hn | ⟨g, cap, cur, rfl, h1, hh, h2⟩
 · exact .inl hn
 · exact .inr ⟨g, cap, cur, rfl, h1, (hb.block g (Array.getElem?_eq_some_iff.1 hh).1).trans hh, h2⟩
theorem Bx.kp {w w' : World} {B g : Nat} {x : Array Value} (h : Bx w g x) (hk : Kp B w w') : Bx w' g x := (hk.keep g h.lt (fun cur fr e => by
 have h' := h
 unfold Bx at h'
 rw [h'] at e
 injection e with e
 injection e with _ e _
 exact absurd e (by decide))).trans h
theorem Tab.kp {w w' : World} {B : Nat} (h : Tab w) (hB : 0 < B) (hk : Kp B w w') : Tab w' := var?_below hk.bel tab_global hB h
def Pb (B : Nat) (w : World) (o : Ob) (p : Value) : Prop := Pair w (fun b => b < B) o p
theorem Pb.kp {w w' : World} {B : Nat} {o : Ob} {p : Value} (h : Pb B w o p) (hk : Kp B w w') : Pb B w' o p := Pair.below h (fun _ h => h) hk.bel
theorem Pb.hd {w : World} {B : Nat} {o : Ob} {p : Value} (h : Pb B w o p) (hB : B ≤ w.heap.size) : Hd w o p := Pair.hd h (fun b hb => Nat.lt_of_lt_of_le hb hB)
theorem Hd.pb {w : World} {o : Ob} {p : Value} (h : Hd w o p) : Pb w.heap.size w o p := h
def RetA (w : World) (B : Nat) (l : List UInt8) (e : Ending) (w' : World) : Prop := ∃ v, e = .returned v ∧ OwnB w' B v l ∧ Kp B w w'
theorem appStr {ops : Array Oper} {rest : List Oper} {o : Oper} {a : Act} {w : World} {Q : Exit → Act → World → Prop} (hgd : o.guard = none) (sl x : Operand)
 (ho : o.op = .call { callee := .builtin .append, args := #[sl, x], argTypes := #[58, 9] }) {B : Nat} {v : Value} {l : List UInt8} (hs : a.eval sl = v) (hown : OwnB w B v l) (s : List UInt8) (hx : a.eval x = .string (BA s))
 (hl : l.length + s.length ≤ 1000000000000) (hB : B ≤ w.heap.size)
 (h : ∀ v' w', OwnB w' B v' (l ++ s) → Kp B w w' → wpList Tryz.prog ops Q rest (a.put o.dst v') w') : wpList Tryz.prog ops Q (o :: rest) a w := by
 obtain ⟨i0, hi, hz0, hz1, hz2⟩ := info_parts info8
 have hsz : (BA s).size = s.length := by unfold BA ByteArray.size; simp
 refine Lib.wpList_append_own_string w hgd sl x 58 9 ho B 5 i0 Tryz.underlying58 Tryz.underlying9 hi hz0 hz1 hz2 v l.length (cb l) hs hown.row (BA s) hx (by rw [hsz]; unfold maxLen; omega) (by rw [hsz]; omega) hB ?_
 intro v' w' h1 h2 _
 rw [strCells_LA, LA_BA, ← cb_append] at h1
 exact h v' w' (OwnB.of_cells h1) (hown.grown h2 hB)
theorem appByte {ops : Array Oper} {rest : List Oper} {o : Oper} {a : Act} {w : World} {Q : Exit → Act → World → Prop} (hgd : o.guard = none) (sl x : Operand)
 (ho : o.op = .call { callee := .builtin .append, args := #[sl, x], argTypes := #[58, 58] }) {B : Nat} {v : Value} {l : List UInt8} (hs : a.eval sl = v) (hown : OwnB w B v l) (b : UInt8) (g c : Nat) (hx : a.eval x = .slice (some ⟨g, 0, none⟩) 1 c)
 (hg : w.heap[g]? = some (.cells #[.int .u8 (b.toNat : Int)] 5 (0, 0))) (hl : l.length ≤ 1000000000000) (hB : B ≤ w.heap.size)
 (h : ∀ v' w', OwnB w' B v' (l ++ [b]) → Kp B w w' → wpList Tryz.prog ops Q rest (a.put o.dst v') w') : wpList Tryz.prog ops Q (o :: rest) a w := by
 obtain ⟨i0, hi, hz0, hz1, hz2⟩ := info_parts info8
 refine wpList_append_own w hgd sl x 58 ho B 5 i0 (.int .u8 0) 1 1 Tryz.underlying58 hi hz0 hz1 hz2 rfl (by decide) v l.length (cb l) hs hown.row ⟨g, 0, none⟩ 1 c [.int .u8 (b.toNat : Int)] hx rfl (fun j u hj => ?_) (fun u hu => ?_) (by unfold maxLen; omega) (by omega) hB ?_
 · match j, hj with
   | 0, hj =>
    simp at hj
    subst hj
    show w.cell? ⟨g, _, none⟩ = _
    rw [cell_of_row _ _ _ _ _ _ hg]
    rfl
 · simp at hu
   subst hu
   rfl
 · intro v' w' h1 h2 _
   have h3 : w'.ownsRow B 5 1 v' (l.length + 1) (cb (l ++ [b])) := by rw [cb_append]; exact h1
   exact h v' w' (OwnB.of_cells h3) (hown.grown h2 hB)
theorem isFinRaw (k : Int) (s1 s2 s3 s4 s5 : ByteArray) (p : Value) (w : World) :
 Calls Tryz.prog 54 #[.agg #[.int .i64 k, .string s1, .string s2, .string s3, .string s4, .string s5, p]] w (RetB w (k == 1)) := by
 cases h1 : (k == 1)
 all_goals
  go_enter Tryz.func54, Tryz.ntmps54
  go_wp2
  go_ret
  exact ⟨rfl, Below.alloc (Below.refl _ _) (Nat.le_refl _) _⟩
theorem isZeroRaw (k : Int) (s1 s2 s3 s4 s5 : ByteArray) (p : Value) (w : World) :
 Calls Tryz.prog 57 #[.agg #[.int .i64 k, .string s1, .string s2, .string s3, .string s4, .string s5, p]] w (RetB w (k == 1 && (s1.toList == [48]))) := by
 have F : Hid (∀ w, Calls Tryz.prog 54 #[.agg #[.int .i64 k, .string s1, .string s2, .string s3, .string s4, .string s5, p]] w (RetB w (k == 1))) := fun w => isFinRaw k s1 s2 s3 s4 s5 p w
 have T := Bx1.new w #[.int .i64 k, .string s1, .string s2, .string s3, .string s4, .string s5, p]
 cases h1 : (k == 1) with
 | false =>
  rw [h1] at F
  go_enter Tryz.func57, Tryz.ntmps57
  go_wp2_with fail
  generalize w.alloc (.cells #[.int .i64 k, .string s1, .string s2, .string s3, .string s4, .string s5, p] 35) = W at T ⊢
  obtain ⟨c0, c1, c2, c3, c4, c5, c6⟩ := T.b0.c
  have HT := hI T
  clear T
  go_wp2_with fail
  refine (F.out _).mono ?_
  rintro e w1 ⟨rfl, hb1⟩
  have HB := hI (chain2 HT.out.bel hb1 (Nat.le_refl _))
  clear c0 c1 c2 c3 c4 c5 c6 hb1
  go_wp2
  go_ret
  exact ⟨rfl, HB.out⟩
 | true =>
  rw [h1] at F
  cases h2 : (s1.toList == [48])
  all_goals
   go_enter Tryz.func57, Tryz.ntmps57
   go_wp2_with fail
   generalize w.alloc (.cells #[.int .i64 k, .string s1, .string s2, .string s3, .string s4, .string s5, p] 35) = W at T ⊢
   obtain ⟨c0, c1, c2, c3, c4, c5, c6⟩ := T.b0.c
   have HT := hI T
   clear T
   go_wp2_with fail
   refine (F.out _).mono ?_
   rintro e w1 ⟨rfl, hb1⟩
   have HB := hI (chain2 HT.out.bel hb1 (Nat.le_refl _))
   obtain ⟨_, d1, _⟩ := (HT.out.b0.keep hb1).c
   clear c0 c1 c2 c3 c4 c5 c6 hb1
   go_wp2
   go_ret
   exact ⟨rfl, HB.out⟩
theorem isOneRaw (k : Int) (s1 s2 s3 s4 s5 : ByteArray) (p : Value) (w : World) :
 Calls Tryz.prog 56 #[.agg #[.int .i64 k, .string s1, .string s2, .string s3, .string s4, .string s5, p]] w (RetB w (k == 1 && (s1.toList == [49]))) := by
 have F : Hid (∀ w, Calls Tryz.prog 54 #[.agg #[.int .i64 k, .string s1, .string s2, .string s3, .string s4, .string s5, p]] w (RetB w (k == 1))) := fun w => isFinRaw k s1 s2 s3 s4 s5 p w
 have T := Bx1.new w #[.int .i64 k, .string s1, .string s2, .string s3, .string s4, .string s5, p]
 cases h1 : (k == 1) with
 | false =>
  rw [h1] at F
  go_enter Tryz.func56, Tryz.ntmps56
  go_wp2_with fail
  generalize w.alloc (.cells #[.int .i64 k, .string s1, .string s2, .string s3, .string s4, .string s5, p] 35) = W at T ⊢
  obtain ⟨c0, c1, c2, c3, c4, c5, c6⟩ := T.b0.c
  have HT := hI T
  clear T
  go_wp2_with fail
  refine (F.out _).mono ?_
  rintro e w1 ⟨rfl, hb1⟩
  have HB := hI (chain2 HT.out.bel hb1 (Nat.le_refl _))
  clear c0 c1 c2 c3 c4 c5 c6 hb1
  go_wp2
  go_ret
  exact ⟨rfl, HB.out⟩
 | true =>
  rw [h1] at F
  cases h2 : (s1.toList == [49])
  all_goals
   go_enter Tryz.func56, Tryz.ntmps56
   go_wp2_with fail
   generalize w.alloc (.cells #[.int .i64 k, .string s1, .string s2, .string s3, .string s4, .string s5, p] 35) = W at T ⊢
   obtain ⟨c0, c1, c2, c3, c4, c5, c6⟩ := T.b0.c
   have HT := hI T
   clear T
   go_wp2_with fail
   refine (F.out _).mono ?_
   rintro e w1 ⟨rfl, hb1⟩
   have HB := hI (chain2 HT.out.bel hb1 (Nat.le_refl _))
   obtain ⟨_, d1, _⟩ := (HT.out.b0.keep hb1).c
   clear c0 c1 c2 c3 c4 c5 c6 hb1
   go_wp2
   go_ret
   exact ⟨rfl, HB.out⟩
end Go.Proofs.YtocbedijpomemaaGreatDoor
