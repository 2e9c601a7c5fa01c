import Derived.Test.YtbffnoodpoagcaaGreatDoorAl
import Derived.Test.YtbffnoodpoagcaaGreatDoorH29
import Derived.Test.YtbffnoodpoagcaaGreatDoorH31
namespace Go.Proofs.YtbffnoodpoagcaaGreatDoor
open Go Go.RowKit
set_option linter.unusedVariables false
structure Pt2 (w X : World) (o0 o1 : Ob) (p0 p1 : Value) : Prop where
 bel : Below w.heap.size w X
 b0 : Bx X w.heap.size (cellsO o0 p0).toArray
 b1 : Bx X (w.heap.size + 1) (cellsO o1 p1).toArray
theorem Pt2.new {w : World} {o0 o1 : Ob} {p0 p1 : Value} {z0 z1 : Array Value} :
 Pt2 w (World.setRow (World.setRow ((w.alloc (.cells z0 27)).alloc (.cells z1 27)) w.heap.size (cellsO o0 p0).toArray) (w.heap.size + 1) (cellsO o1 p1).toArray) o0 o1 p0 p1 := by
 have T := Bx2.new w z0 z1
 refine ⟨below_setRowO (below_setRowO T.bel (Nat.le_refl _) _) (by omega) _, ?_, ?_⟩
 · exact T.b0.set.other (by omega)
 · exact (T.b1.other (by omega)).set
theorem Bx2.n1 {w W : World} {x0 x1 y : Array Value} (T : Bx2 w W x0 x1) : Bx (W.setRow w.heap.size y) (w.heap.size + 1) x1 := T.b1.other (by omega)
theorem fineN {q : Rat} (h : Bd 60 q) : Fine (.num q) := ⟨h.more (by decide), by show 1 ≤ 1000; decide⟩
theorem sum900 {x y : Rat} (hx : Bd 60 x) (hy : Bd 60 y) : Bd 900 (x + y) := (bd_add hx hy).more (by decide)
theorem mul900 {x y : Rat} (hx : Bd 60 x) (hy : Bd 60 y) : Bd 900 (x * y) := (bd_mul hx hy (by decide)).more (by decide)
theorem arQ {i : Nat} {x y : Rat} (hi : i < 25) (q : Rat) (hq : Bd 900 q) (hp : primV i [.num x, .num y] = .num q) (hx : Bd 60 x) (hy : Bd 60 y) (hni : ¬ (i = 23 ∨ i = 24)) (v : Value) (w : World) (hv : Ar w [.num x, .num y] v) (ht : Tab w) :
 Calls Tryz.prog 17 #[.agg #[.string (BA lispB), .string (nmS i)], v] w (RetU w (appV (okN q) (some i) [.num x, .num y])) ∧
 Calls Tryz.prog 22 #[.agg #[.string (BA lispB), .string (nmS i)], v] w (RetU w (appV (okN q) (some i) [.num x, .num y])) := by
 have hF : ∀ o ∈ [Ob.num x, .num y], Fine o := fun o ho => by
  rcases List.mem_cons.1 ho with rfl | ho
  · exact fineN hx
  · rw [List.mem_singleton] at ho; subst ho; exact fineN hy
 have hf := fnd_at i hi
 refine ⟨?_, ?_⟩
 · have h := applyPall (BA lispB) (nmS i) [.num x, .num y] v w hv (okN q) ht hF (fun j hj h => by rw [hf] at hj; injection hj with hj; subst hj; exact absurd h hni) (fun j hj _ W p hp' _ => by
    rw [hf] at hj; injection hj with hj; subst hj
    rw [hp] at hp' ⊢
    exact validPN q hq p W hp')
   rw [hf] at h
   exact h.mono fun _ _ h => h.u
 · have h := applyRall (BA lispB) (nmS i) [.num x, .num y] v w hv (okN q) ht hF (fun j hj h => by rw [hf] at hj; injection hj with hj; subst hj; exact absurd h hni) (fun j hj _ W p hp' _ => by
    rw [hf] at hj; injection hj with hj; subst hj
    rw [hp] at hp' ⊢
    exact validRN q hq p W hp')
   rw [hf] at h
   exact h.mono fun _ _ h => h.u
set_option maxHeartbeats 16000000 in
set_option maxRecDepth 100000 in
theorem lawLimits (n m c : Int) (w : World) (hn : I64 n) (hm : I64 m) (hc : I64 c) (ht : Tab w) :
 Calls Tryz.prog 4 #[.int .i64 n, .int .i64 m, .int .i64 c] w (RetB w true) := by
 have n0 := Int.emod_nonneg n (show (52 : Int) ≠ 0 by decide)
 have n1 := Int.emod_lt_of_pos n (show (0 : Int) < 52 by decide)
 have m0 := Int.emod_nonneg m (show (52 : Int) ≠ 0 by decide)
 have m1 := Int.emod_lt_of_pos m (show (0 : Int) < 52 by decide)
 have c0 := Int.emod_nonneg c (show (9 : Int) ≠ 0 by decide)
 have c1 := Int.emod_lt_of_pos c (show (0 : Int) < 9 by decide)
 have CM1 : Hid (∀ W, Calls Tryz.prog 19 #[.int .i64 n, .int .i64 52] W fun e w' => e = .returned (.int .i64 (n % 52)) ∧ W = w') := fun W => modO n 52 W hn.1 hn.2 (by decide) (by decide)
 have CM2 : Hid (∀ W, Calls Tryz.prog 19 #[.int .i64 m, .int .i64 52] W fun e w' => e = .returned (.int .i64 (m % 52)) ∧ W = w') := fun W => modO m 52 W hm.1 hm.2 (by decide) (by decide)
 have CM3 : Hid (∀ W, Calls Tryz.prog 19 #[.int .i64 c, .int .i64 9] W fun e w' => e = .returned (.int .i64 (c % 9)) ∧ W = w') := fun W => modO c 9 W hc.1 hc.2 (by decide) (by decide)
 have CM4 : Hid (∀ W, Calls Tryz.prog 19 #[.int .i64 c, .int .i64 2] W fun e w' => e = .returned (.int .i64 (c % 2)) ∧ W = w') := fun W => modO c 2 W hc.1 hc.2 (by decide) (by decide)
 obtain ⟨j2, hj2⟩ : ∃ k : Nat, c % 2 = k := ⟨(c % 2).toNat, by omega⟩
 have hj2' : j2 < 2 := by omega
 rw [hj2] at CM4
 clear hj2
 obtain ⟨a, ha⟩ : ∃ k : Nat, n % 52 = k := ⟨(n % 52).toNat, by omega⟩
 obtain ⟨d, hd⟩ : ∃ k : Nat, m % 52 = k := ⟨(m % 52).toNat, by omega⟩
 obtain ⟨f, hf⟩ : ∃ k : Nat, c % 9 = k := ⟨(c % 9).toNat, by omega⟩
 rw [ha] at CM1 n1
 rw [hd] at CM2 m1
 rw [hf] at CM3 c1
 clear ha hd hf n0 m0 c0 hn hm hc
 have ha : a < 52 := by omega
 have hd : d < 52 := by omega
 have hf : f < 9 := by omega
 clear n1 m1 c1
 have CI : Hid (∀ W, Tab W → Calls Tryz.prog 21 #[.int .i64 (f : Int)] W (RetS W (f : Int))) := fun W hT => fromIntR (f : Int) W (qh9 ⟨by omega, by omega⟩) hT
 have HT := qh9 ht
 have HW := qh9 (Below.refl w.heap.size w)
 clear ht
 go_enter Tryz.func4, Tryz.ntmps4
 go_wp2_with fail
 with_reducible refine (first7 _ HT.out).mono ?_
 rintro e w1 ⟨rfl, hb⟩
 replace HT := qh9 (HT.out.below hb)
 replace HW := qc9 HW hb
 clear hb
 go_wp2_with fail
 go_loop [7, 8] (fun u v => ∃ (j : Nat) (s : ByteArray), j ≤ a ∧ Hid (s.size = j + 1) ∧ u = .string s ∧ v = .int .i64 (j : Int)) (fun _ v => a - (intOf v).toNat)
 case atStart => exact ⟨0, _, by omega, qh9 rfl, rfl, rfl⟩
 case round =>
  obtain ⟨j, s, hj, hss, rfl, rfl⟩ := hrel
  by_cases hjb : j < a
  · have hj1 : (j : Int) < (a : Int) := by omega
    have hsz : s.size + 1 ≤ 100 := by have := hss.out; omega
    go_wp2_with fail
    refine (CM1.out _).mono ?_
    rintro e w' ⟨rfl, rfl⟩
    go_wp2_with fail
    go_round
    case rel => exact ⟨j + 1, _, by omega, qh9 (by have := hss.out; rw [ByteArray.size_append]; show _ + 1 = _; omega), rfl, by go_num⟩
    case measure => simp [intOf]; omega
  · have hj1 : ¬ (j : Int) < (a : Int) := by omega
    have hs : Hid (s.size ≤ 53) := qh9 (by have := hss.out; omega)
    have hz : j ≤ a := hj
    clear hss
    go_wp2_with fail
    refine (CM1.out _).mono ?_
    rintro e w' ⟨rfl, rfl⟩
    go_wp2_with fail
    clear hj1 hjb hj hz
    go_loop [9, 10] (fun u v => ∃ (j : Nat) (s : ByteArray), j ≤ d ∧ Hid (s.size = j + 1) ∧ u = .string s ∧ v = .int .i64 (j : Int)) (fun _ v => d - (intOf v).toNat)
    case atStart => exact ⟨0, _, by omega, qh9 rfl, rfl, rfl⟩
    case round =>
     obtain ⟨j, t, hj, hst, rfl, rfl⟩ := hrel
     by_cases hjb : j < d
     · have hj1 : (j : Int) < (d : Int) := by omega
       have hsz : t.size + 1 ≤ 100 := by have := hst.out; omega
       go_wp2_with fail
       refine (CM2.out _).mono ?_
       rintro e w' ⟨rfl, rfl⟩
       go_wp2_with fail
       go_round
       case rel => exact ⟨j + 1, _, by omega, qh9 (by have := hst.out; rw [ByteArray.size_append]; show _ + 1 = _; omega), rfl, by go_num⟩
       case measure => simp [intOf]; omega
     · have hj1 : ¬ (j : Int) < (d : Int) := by omega
       have ht : Hid (t.size ≤ 53) := qh9 (by have := hst.out; omega)
       have hz : j ≤ d := hj
       clear hst
       go_wp2_with fail
       refine (CM2.out _).mono ?_
       rintro e w' ⟨rfl, rfl⟩
       go_wp2_with fail
       clear hj1 hjb hj hz
       with_reducible refine (ratRH s ⟨#[49]⟩ _ (by have := hs.out; omega) (by decide)).mono ?_
       rintro e w2 ⟨p0, rfl, k0, hb⟩
       replace HT := qh9 (HT.out.below hb)
       replace HW := qc9 HW hb
       clear hb
       replace k0 := qh9 k0
       go_wp2_with fail
       refine (CM3.out _).mono ?_
       rintro e w' ⟨rfl, rfl⟩
       go_wp2_with fail
       refine (CI.out _ HT.out).mono ?_
       rintro e w3 ⟨rfl, hb⟩
       replace HT := qh9 (HT.out.below hb)
       replace HW := qc9 HW hb
       replace k0 := qh9 (k0.out.below hb)
       clear hb
       have hfz : (BA (text (f : Int))).size ≤ 12 := by rw [BA_size]; exact text_length (k := 10) (by omega)
       obtain ⟨fs, hfs⟩ : ∃ fs, BA (text (f : Int)) = fs := ⟨_, rfl⟩
       rw [hfs] at hfz
       try rw [hfs]
       clear hfs
       go_wp2_with fail
       with_reducible refine (ratRH fs t _ (by omega) (by have := ht.out; omega)).mono ?_
       rintro e w4 ⟨q0, rfl, k1, hb⟩
       replace HT := qh9 (HT.out.below hb)
       replace HW := qc9 HW hb
       replace k0 := qh9 (k0.out.below hb)
       clear hb
       replace k1 := qh9 k1
       have hX : Bd 60 (quo (LA s) (LA ⟨#[49]⟩)) := bd_quo (by have := hs.out; have e : (LA s).length = s.size := rfl; omega) (by decide) (by decide)
       have hY : Bd 60 (quo (LA fs) (LA t)) := bd_quo (by have e : (LA fs).length = fs.size := rfl; omega) (by have := ht.out; have e : (LA t).length = t.size := rfl; omega) (by decide)
       generalize quo (LA s) (LA ⟨#[49]⟩) = x at *
       generalize quo (LA fs) (LA t) = y at *
       obtain rfl : p0 = .slice none 0 0 := k0.out.flat rfl
       obtain rfl : q0 = .slice none 0 0 := k1.out.flat rfl
       clear hs ht hfz CM1 CM2 CM3 CI
       have T2 := qh9 (Bx2.new w4 #[.int .i64 0, .string ⟨#[]⟩, .string ⟨#[]⟩, .string ⟨#[]⟩, .string ⟨#[]⟩, .string ⟨#[]⟩, .slice none 0 0] #[.int .i64 0, .string ⟨#[]⟩, .string ⟨#[]⟩, .string ⟨#[]⟩, .string ⟨#[]⟩, .string ⟨#[]⟩, .slice none 0 0])
       go_upto_region 14 with (first | ((with_reducible refine storeB (w1 := w4) (g := w4.heap.size) (b := .num x) (p := .slice none 0 0) (.tmp 11) (.tmp 38) ?_ ?_ ?_ ?_ k0.out T2.out.b0 ?_); rfl; rfl; rfl; rfl) | ((with_reducible refine storeB (w1 := w4) (g := w4.heap.size + 1) (b := .num y) (p := .slice none 0 0) (.tmp 12) (.tmp 43) ?_ ?_ ?_ ?_ k1.out T2.out.n1 ?_); rfl; rfl; rfl; rfl))
       have P := Pt2.new (w := w4) (o0 := .num x) (o1 := .num y) (p0 := .slice none 0 0) (p1 := .slice none 0 0) (z0 := #[.int .i64 0, .string ⟨#[]⟩, .string ⟨#[]⟩, .string ⟨#[]⟩, .string ⟨#[]⟩, .string ⟨#[]⟩, .slice none 0 0]) (z1 := #[.int .i64 0, .string ⟨#[]⟩, .string ⟨#[]⟩, .string ⟨#[]⟩, .string ⟨#[]⟩, .string ⟨#[]⟩, .slice none 0 0])
       generalize World.setRow (World.setRow ((w4.alloc (.cells #[.int .i64 0, .string ⟨#[]⟩, .string ⟨#[]⟩, .string ⟨#[]⟩, .string ⟨#[]⟩, .string ⟨#[]⟩, .slice none 0 0] 27)).alloc (.cells #[.int .i64 0, .string ⟨#[]⟩, .string ⟨#[]⟩, .string ⟨#[]⟩, .string ⟨#[]⟩, .string ⟨#[]⟩, .slice none 0 0] 27)) w4.heap.size (cellsO (.num x) (.slice none 0 0)).toArray) (w4.heap.size + 1) (cellsO (.num y) (.slice none 0 0)).toArray = X at P ⊢
       have hb := P.bel
       replace HT := qh9 (HT.out.below hb)
       replace HW := qc9 HW hb
       replace k0 := qh9 (k0.out.below hb)
       replace k1 := qh9 (k1.out.below hb)
       have B0 := qh9 P.b0
       have B1 := qh9 P.b1
       clear P hb T2
       have C10 : Hid (∀ v W, Ar W [.num x, .num y] v → Tab W → _) := fun v W h t => arQ (i := 10) (by decide) _ (sum900 hX hY) rfl hX hY (by decide) v W h t
       have C11 : Hid (∀ v W, Ar W [.num x, .num y] v → Tab W → _) := fun v W h t => arQ (i := 11) (by decide) _ (mul900 hX hY) rfl hX hY (by decide) v W h t
       clear hX hY
       match j2, hj2' with
       | 0, _ =>
        have CP : Hid (∀ v W, Ar W [.num x, .num y] v → Tab W → Calls Tryz.prog 17 #[.agg #[.string (BA lispB), .string ⟨#[98, 105, 110, 97, 114, 121, 45, 42]⟩], v] W _) := fun v W h t => (C11.out v W h t).1
        have CR : Hid (∀ v W, Ar W [.num x, .num y] v → Tab W → Calls Tryz.prog 22 #[.agg #[.string (BA lispB), .string ⟨#[98, 105, 110, 97, 114, 121, 45, 42]⟩], v] W _) := fun v W h t => (C11.out v W h t).2
        clear C10 C11
        generalize appV _ (some 11) _ = r at CP CR
        obtain ⟨ro, rn⟩ := r
        go_wp2_with fail
        have hb : Below X.heap.size X (X.alloc (.cells #[.string ⟨#[98, 105, 110, 97, 114, 121, 45, 42]⟩, .string ⟨#[98, 105, 110, 97, 114, 121, 45, 43]⟩] 9)) := Below.alloc (Below.refl _ _) (Nat.le_refl _) _
        have hg := heap_alloc_new X (.cells #[.string ⟨#[98, 105, 110, 97, 114, 121, 45, 42]⟩, .string ⟨#[98, 105, 110, 97, 114, 121, 45, 43]⟩] 9)
        generalize X.alloc (.cells #[.string ⟨#[98, 105, 110, 97, 114, 121, 45, 42]⟩, .string ⟨#[98, 105, 110, 97, 114, 121, 45, 43]⟩] 9) = Y at hb hg ⊢
        replace HT := qh9 (HT.out.below hb)
        replace HW := qc9 HW hb
        replace k0 := qh9 (k0.out.below hb)
        replace k1 := qh9 (k1.out.below hb)
        replace B0 := qh9 (B0.out.keep hb)
        replace B1 := qh9 (B1.out.keep hb)
        clear hb
        refine (CM4.out _).mono ?_
        rintro e w' ⟨rfl, rfl⟩
        have hl : Y.cell? ⟨X.heap.size, 0, none⟩ = some (.string ⟨#[98, 105, 110, 97, 114, 121, 45, 42]⟩) := by rw [cell_of_row _ _ _ _ _ _ hg]; rfl
        clear hg
        go_wp2_with fail
        clear hl
        refine (lispO _ _).mono ?_
        rintro e w5 ⟨rfl, hb⟩
        replace HT := qh9 (HT.out.below hb)
        replace HW := qc9 HW hb
        replace k0 := qh9 (k0.out.below hb)
        replace k1 := qh9 (k1.out.below hb)
        replace B0 := qh9 (B0.out.keep hb)
        replace B1 := qh9 (B1.out.keep hb)
        clear hb
        go_upto_region 16 with fail
        have S0 := Sy.SB.new w5 (.string (BA lispB)) (.string ⟨#[98, 105, 110, 97, 114, 121, 45, 42]⟩)
        have hb : Below w5.heap.size w5 (w5.alloc (.cells #[.string (BA lispB), .string ⟨#[98, 105, 110, 97, 114, 121, 45, 42]⟩] 24)) := Below.alloc (Below.refl _ _) (Nat.le_refl _) _
        generalize w5.alloc (.cells #[.string (BA lispB), .string ⟨#[98, 105, 110, 97, 114, 121, 45, 42]⟩] 24) = Z at S0 hb ⊢
        replace HT := qh9 (HT.out.below hb)
        replace HW := qc9 HW hb
        replace k0 := qh9 (k0.out.below hb)
        replace k1 := qh9 (k1.out.below hb)
        replace B0 := qh9 (B0.out.keep hb)
        replace B1 := qh9 (B1.out.keep hb)
        have BS := qh9 S0
        clear S0 hb
        obtain ⟨s0, s1⟩ := And.intro BS.out.c0 BS.out.c1
        obtain ⟨f0, f1, f2, f3, f4, f5, f6⟩ := Bx.c (W := Z) (a0 := .int .i64 1) (a1 := .string (nt x)) (a2 := .string (dt x)) (a3 := .string ⟨#[]⟩) (a4 := .string ⟨#[]⟩) (a5 := .string ⟨#[]⟩) (a6 := .slice none 0 0) B0.out
        obtain ⟨g0, g1, g2, g3, g4, g5, g6⟩ := Bx.c (W := Z) (a0 := .int .i64 1) (a1 := .string (nt y)) (a2 := .string (dt y)) (a3 := .string ⟨#[]⟩) (a4 := .string ⟨#[]⟩) (a5 := .string ⟨#[]⟩) (a6 := .slice none 0 0) B1.out
        go_wp2_with fail
        clear s0 s1 f0 f1 f2 f3 f4 f5 f6 g0 g1 g2 g3 g4 g5 g6
        have hb : Below Z.heap.size Z (Z.alloc (.cells #[.int .i64 1, .string (nt x), .string (dt x), .string ⟨#[]⟩, .string ⟨#[]⟩, .string ⟨#[]⟩, .slice none 0 0, .int .i64 1, .string (nt y), .string (dt y), .string ⟨#[]⟩, .string ⟨#[]⟩, .string ⟨#[]⟩, .slice none 0 0] 27)) := Below.alloc (Below.refl _ _) (Nat.le_refl _) _
        have hA0 : Ar (Z.alloc (.cells #[.int .i64 1, .string (nt x), .string (dt x), .string ⟨#[]⟩, .string ⟨#[]⟩, .string ⟨#[]⟩, .slice none 0 0, .int .i64 1, .string (nt y), .string (dt y), .string ⟨#[]⟩, .string ⟨#[]⟩, .string ⟨#[]⟩, .slice none 0 0] 27)) [.num x, .num y] (.slice (some ⟨Z.heap.size, 0, none⟩) 2 2) := ar_new2 k0.out k1.out
        generalize Z.alloc (.cells #[.int .i64 1, .string (nt x), .string (dt x), .string ⟨#[]⟩, .string ⟨#[]⟩, .string ⟨#[]⟩, .slice none 0 0, .int .i64 1, .string (nt y), .string (dt y), .string ⟨#[]⟩, .string ⟨#[]⟩, .string ⟨#[]⟩, .slice none 0 0] 27) = Y1 at hb hA0 ⊢
        replace HT := qh9 (HT.out.below hb)
        replace HW := qc9 HW hb
        replace k0 := qh9 (k0.out.below hb)
        replace k1 := qh9 (k1.out.below hb)
        replace B0 := qh9 (B0.out.keep hb)
        replace B1 := qh9 (B1.out.keep hb)
        replace BS := qh9 (BS.out.keep hb)
        have HA := qh9 hA0
        clear hb hA0
        with_reducible refine (CP.out _ _ HA.out HT.out).mono ?_
        rintro e w6 ⟨cs, rfl, u1, hb⟩
        replace HT := qh9 (HT.out.below hb)
        replace HW := qc9 HW hb
        replace k0 := qh9 (k0.out.below hb)
        replace k1 := qh9 (k1.out.below hb)
        replace B0 := qh9 (B0.out.keep hb)
        replace B1 := qh9 (B1.out.keep hb)
        replace BS := qh9 (BS.out.keep hb)
        clear hb
        replace u1 := qh9 u1
        have N1 := qh9 (Bx1.new w6 #[.int .i64 0, .string ⟨#[]⟩, .string ⟨#[]⟩, .string ⟨#[]⟩, .string ⟨#[]⟩, .string ⟨#[]⟩, .slice none 0 0])
        go_upto_region 17 with ((with_reducible refine storeU (w1 := w6) (g := w6.heap.size) (cs := cs) (r := (ro, rn)) (.tmp 15) (.tmp 57) ?_ ?_ ?_ ?_ u1.out N1.out.b0 ?_); rfl; rfl; rfl; rfl)
        have Q := boxU w6 #[.int .i64 0, .string ⟨#[]⟩, .string ⟨#[]⟩, .string ⟨#[]⟩, .string ⟨#[]⟩, .string ⟨#[]⟩, .slice none 0 0] cs
        generalize World.setRow (w6.alloc (.cells #[.int .i64 0, .string ⟨#[]⟩, .string ⟨#[]⟩, .string ⟨#[]⟩, .string ⟨#[]⟩, .string ⟨#[]⟩, .slice none 0 0] 27)) w6.heap.size cs = X6 at Q ⊢
        have hb := Q.1
        replace HT := qh9 (HT.out.below hb)
        replace HW := qc9 HW hb
        replace k0 := qh9 (k0.out.below hb)
        replace k1 := qh9 (k1.out.below hb)
        replace B0 := qh9 (B0.out.keep hb)
        replace B1 := qh9 (B1.out.keep hb)
        replace BS := qh9 (BS.out.keep hb)
        replace u1 := qh9 (u1.out.below hb)
        have U1 := qh9 Q.2
        clear hb Q N1
        clear HA
        obtain ⟨s0, s1⟩ := And.intro BS.out.c0 BS.out.c1
        obtain ⟨f0, f1, f2, f3, f4, f5, f6⟩ := Bx.c (W := X6) (a0 := .int .i64 1) (a1 := .string (nt x)) (a2 := .string (dt x)) (a3 := .string ⟨#[]⟩) (a4 := .string ⟨#[]⟩) (a5 := .string ⟨#[]⟩) (a6 := .slice none 0 0) B0.out
        obtain ⟨g0, g1, g2, g3, g4, g5, g6⟩ := Bx.c (W := X6) (a0 := .int .i64 1) (a1 := .string (nt y)) (a2 := .string (dt y)) (a3 := .string ⟨#[]⟩) (a4 := .string ⟨#[]⟩) (a5 := .string ⟨#[]⟩) (a6 := .slice none 0 0) B1.out
        go_wp2_with fail
        clear s0 s1 f0 f1 f2 f3 f4 f5 f6 g0 g1 g2 g3 g4 g5 g6
        have hb : Below X6.heap.size X6 (X6.alloc (.cells #[.int .i64 1, .string (nt x), .string (dt x), .string ⟨#[]⟩, .string ⟨#[]⟩, .string ⟨#[]⟩, .slice none 0 0, .int .i64 1, .string (nt y), .string (dt y), .string ⟨#[]⟩, .string ⟨#[]⟩, .string ⟨#[]⟩, .slice none 0 0] 27)) := Below.alloc (Below.refl _ _) (Nat.le_refl _) _
        have hA0 : Ar (X6.alloc (.cells #[.int .i64 1, .string (nt x), .string (dt x), .string ⟨#[]⟩, .string ⟨#[]⟩, .string ⟨#[]⟩, .slice none 0 0, .int .i64 1, .string (nt y), .string (dt y), .string ⟨#[]⟩, .string ⟨#[]⟩, .string ⟨#[]⟩, .slice none 0 0] 27)) [.num x, .num y] (.slice (some ⟨X6.heap.size, 0, none⟩) 2 2) := ar_new2 k0.out k1.out
        generalize X6.alloc (.cells #[.int .i64 1, .string (nt x), .string (dt x), .string ⟨#[]⟩, .string ⟨#[]⟩, .string ⟨#[]⟩, .slice none 0 0, .int .i64 1, .string (nt y), .string (dt y), .string ⟨#[]⟩, .string ⟨#[]⟩, .string ⟨#[]⟩, .slice none 0 0] 27) = Y2 at hb hA0 ⊢
        replace HT := qh9 (HT.out.below hb)
        replace HW := qc9 HW hb
        replace k0 := qh9 (k0.out.below hb)
        replace k1 := qh9 (k1.out.below hb)
        replace B0 := qh9 (B0.out.keep hb)
        replace B1 := qh9 (B1.out.keep hb)
        replace BS := qh9 (BS.out.keep hb)
        replace u1 := qh9 (u1.out.below hb)
        replace U1 := qh9 (U1.out.keep hb)
        have HA := qh9 hA0
        clear hb hA0
        with_reducible refine (CR.out _ _ HA.out HT.out).mono ?_
        rintro e w7 ⟨ds, rfl, u2, hb⟩
        replace HT := qh9 (HT.out.below hb)
        replace HW := qc9 HW hb
        replace k0 := qh9 (k0.out.below hb)
        replace k1 := qh9 (k1.out.below hb)
        replace B0 := qh9 (B0.out.keep hb)
        replace B1 := qh9 (B1.out.keep hb)
        replace BS := qh9 (BS.out.keep hb)
        replace u1 := qh9 (u1.out.below hb)
        replace U1 := qh9 (U1.out.keep hb)
        clear hb
        replace u2 := qh9 u2
        have N1 := qh9 (Bx1.new w7 #[.int .i64 0, .string ⟨#[]⟩, .string ⟨#[]⟩, .string ⟨#[]⟩, .string ⟨#[]⟩, .string ⟨#[]⟩, .slice none 0 0])
        go_upto_region 18 with ((with_reducible refine storeU (w1 := w7) (g := w7.heap.size) (cs := ds) (r := (ro, rn)) (.tmp 17) (.tmp 65) ?_ ?_ ?_ ?_ u2.out N1.out.b0 ?_); rfl; rfl; rfl; rfl)
        have Q := boxU w7 #[.int .i64 0, .string ⟨#[]⟩, .string ⟨#[]⟩, .string ⟨#[]⟩, .string ⟨#[]⟩, .string ⟨#[]⟩, .slice none 0 0] ds
        generalize World.setRow (w7.alloc (.cells #[.int .i64 0, .string ⟨#[]⟩, .string ⟨#[]⟩, .string ⟨#[]⟩, .string ⟨#[]⟩, .string ⟨#[]⟩, .slice none 0 0] 27)) w7.heap.size ds = X7 at Q ⊢
        have hb := Q.1
        replace HT := qh9 (HT.out.below hb)
        replace HW := qc9 HW hb
        replace k0 := qh9 (k0.out.below hb)
        replace k1 := qh9 (k1.out.below hb)
        replace B0 := qh9 (B0.out.keep hb)
        replace B1 := qh9 (B1.out.keep hb)
        replace BS := qh9 (BS.out.keep hb)
        replace u1 := qh9 (u1.out.below hb)
        replace U1 := qh9 (U1.out.keep hb)
        replace u2 := qh9 (u2.out.below hb)
        have U2 := qh9 Q.2
        clear hb Q N1
        clear HA
        go_wp2_with (first | ((with_reducible refine loadU (.tmp 15) ?_ ?_ ?_ U1.out u1.out ?_); rfl; rfl; rfl) | ((with_reducible refine loadUG (.tmp 15) ?_ ?_ ?_ U1.out u1.out ?_); rfl; rfl; rfl) | ((with_reducible refine loadU (.tmp 17) ?_ ?_ ?_ U2.out u2.out ?_); rfl; rfl; rfl) | ((with_reducible refine loadUG (.tmp 17) ?_ ?_ ?_ U2.out u2.out ?_); rfl; rfl; rfl))
        with_reducible refine (eqU u1.out u2.out).mono ?_
        rintro e w8 ⟨rfl, hb⟩
        replace HT := qh9 (HT.out.below hb)
        replace HW := qc9 HW hb
        replace k0 := qh9 (k0.out.below hb)
        replace k1 := qh9 (k1.out.below hb)
        replace B0 := qh9 (B0.out.keep hb)
        replace B1 := qh9 (B1.out.keep hb)
        replace BS := qh9 (BS.out.keep hb)
        replace u1 := qh9 (u1.out.below hb)
        replace U1 := qh9 (U1.out.keep hb)
        replace u2 := qh9 (u2.out.below hb)
        replace U2 := qh9 (U2.out.keep hb)
        clear hb
        go_wp2
        go_ret
        exact ⟨rfl, HW.out⟩
       | 1, _ =>
        have CP : Hid (∀ v W, Ar W [.num x, .num y] v → Tab W → Calls Tryz.prog 17 #[.agg #[.string (BA lispB), .string ⟨#[98, 105, 110, 97, 114, 121, 45, 43]⟩], v] W _) := fun v W h t => (C10.out v W h t).1
        have CR : Hid (∀ v W, Ar W [.num x, .num y] v → Tab W → Calls Tryz.prog 22 #[.agg #[.string (BA lispB), .string ⟨#[98, 105, 110, 97, 114, 121, 45, 43]⟩], v] W _) := fun v W h t => (C10.out v W h t).2
        clear C10 C11
        generalize appV _ (some 10) _ = r at CP CR
        obtain ⟨ro, rn⟩ := r
        go_wp2_with fail
        have hb : Below X.heap.size X (X.alloc (.cells #[.string ⟨#[98, 105, 110, 97, 114, 121, 45, 42]⟩, .string ⟨#[98, 105, 110, 97, 114, 121, 45, 43]⟩] 9)) := Below.alloc (Below.refl _ _) (Nat.le_refl _) _
        have hg := heap_alloc_new X (.cells #[.string ⟨#[98, 105, 110, 97, 114, 121, 45, 42]⟩, .string ⟨#[98, 105, 110, 97, 114, 121, 45, 43]⟩] 9)
        generalize X.alloc (.cells #[.string ⟨#[98, 105, 110, 97, 114, 121, 45, 42]⟩, .string ⟨#[98, 105, 110, 97, 114, 121, 45, 43]⟩] 9) = Y at hb hg ⊢
        replace HT := qh9 (HT.out.below hb)
        replace HW := qc9 HW hb
        replace k0 := qh9 (k0.out.below hb)
        replace k1 := qh9 (k1.out.below hb)
        replace B0 := qh9 (B0.out.keep hb)
        replace B1 := qh9 (B1.out.keep hb)
        clear hb
        refine (CM4.out _).mono ?_
        rintro e w' ⟨rfl, rfl⟩
        have hl : Y.cell? ⟨X.heap.size, 1, none⟩ = some (.string ⟨#[98, 105, 110, 97, 114, 121, 45, 43]⟩) := by rw [cell_of_row _ _ _ _ _ _ hg]; rfl
        clear hg
        go_wp2_with fail
        clear hl
        refine (lispO _ _).mono ?_
        rintro e w5 ⟨rfl, hb⟩
        replace HT := qh9 (HT.out.below hb)
        replace HW := qc9 HW hb
        replace k0 := qh9 (k0.out.below hb)
        replace k1 := qh9 (k1.out.below hb)
        replace B0 := qh9 (B0.out.keep hb)
        replace B1 := qh9 (B1.out.keep hb)
        clear hb
        go_upto_region 16 with fail
        have S0 := Sy.SB.new w5 (.string (BA lispB)) (.string ⟨#[98, 105, 110, 97, 114, 121, 45, 43]⟩)
        have hb : Below w5.heap.size w5 (w5.alloc (.cells #[.string (BA lispB), .string ⟨#[98, 105, 110, 97, 114, 121, 45, 43]⟩] 24)) := Below.alloc (Below.refl _ _) (Nat.le_refl _) _
        generalize w5.alloc (.cells #[.string (BA lispB), .string ⟨#[98, 105, 110, 97, 114, 121, 45, 43]⟩] 24) = Z at S0 hb ⊢
        replace HT := qh9 (HT.out.below hb)
        replace HW := qc9 HW hb
        replace k0 := qh9 (k0.out.below hb)
        replace k1 := qh9 (k1.out.below hb)
        replace B0 := qh9 (B0.out.keep hb)
        replace B1 := qh9 (B1.out.keep hb)
        have BS := qh9 S0
        clear S0 hb
        obtain ⟨s0, s1⟩ := And.intro BS.out.c0 BS.out.c1
        obtain ⟨f0, f1, f2, f3, f4, f5, f6⟩ := Bx.c (W := Z) (a0 := .int .i64 1) (a1 := .string (nt x)) (a2 := .string (dt x)) (a3 := .string ⟨#[]⟩) (a4 := .string ⟨#[]⟩) (a5 := .string ⟨#[]⟩) (a6 := .slice none 0 0) B0.out
        obtain ⟨g0, g1, g2, g3, g4, g5, g6⟩ := Bx.c (W := Z) (a0 := .int .i64 1) (a1 := .string (nt y)) (a2 := .string (dt y)) (a3 := .string ⟨#[]⟩) (a4 := .string ⟨#[]⟩) (a5 := .string ⟨#[]⟩) (a6 := .slice none 0 0) B1.out
        go_wp2_with fail
        clear s0 s1 f0 f1 f2 f3 f4 f5 f6 g0 g1 g2 g3 g4 g5 g6
        have hb : Below Z.heap.size Z (Z.alloc (.cells #[.int .i64 1, .string (nt x), .string (dt x), .string ⟨#[]⟩, .string ⟨#[]⟩, .string ⟨#[]⟩, .slice none 0 0, .int .i64 1, .string (nt y), .string (dt y), .string ⟨#[]⟩, .string ⟨#[]⟩, .string ⟨#[]⟩, .slice none 0 0] 27)) := Below.alloc (Below.refl _ _) (Nat.le_refl _) _
        have hA0 : Ar (Z.alloc (.cells #[.int .i64 1, .string (nt x), .string (dt x), .string ⟨#[]⟩, .string ⟨#[]⟩, .string ⟨#[]⟩, .slice none 0 0, .int .i64 1, .string (nt y), .string (dt y), .string ⟨#[]⟩, .string ⟨#[]⟩, .string ⟨#[]⟩, .slice none 0 0] 27)) [.num x, .num y] (.slice (some ⟨Z.heap.size, 0, none⟩) 2 2) := ar_new2 k0.out k1.out
        generalize Z.alloc (.cells #[.int .i64 1, .string (nt x), .string (dt x), .string ⟨#[]⟩, .string ⟨#[]⟩, .string ⟨#[]⟩, .slice none 0 0, .int .i64 1, .string (nt y), .string (dt y), .string ⟨#[]⟩, .string ⟨#[]⟩, .string ⟨#[]⟩, .slice none 0 0] 27) = Y1 at hb hA0 ⊢
        replace HT := qh9 (HT.out.below hb)
        replace HW := qc9 HW hb
        replace k0 := qh9 (k0.out.below hb)
        replace k1 := qh9 (k1.out.below hb)
        replace B0 := qh9 (B0.out.keep hb)
        replace B1 := qh9 (B1.out.keep hb)
        replace BS := qh9 (BS.out.keep hb)
        have HA := qh9 hA0
        clear hb hA0
        with_reducible refine (CP.out _ _ HA.out HT.out).mono ?_
        rintro e w6 ⟨cs, rfl, u1, hb⟩
        replace HT := qh9 (HT.out.below hb)
        replace HW := qc9 HW hb
        replace k0 := qh9 (k0.out.below hb)
        replace k1 := qh9 (k1.out.below hb)
        replace B0 := qh9 (B0.out.keep hb)
        replace B1 := qh9 (B1.out.keep hb)
        replace BS := qh9 (BS.out.keep hb)
        clear hb
        replace u1 := qh9 u1
        have N1 := qh9 (Bx1.new w6 #[.int .i64 0, .string ⟨#[]⟩, .string ⟨#[]⟩, .string ⟨#[]⟩, .string ⟨#[]⟩, .string ⟨#[]⟩, .slice none 0 0])
        go_upto_region 17 with ((with_reducible refine storeU (w1 := w6) (g := w6.heap.size) (cs := cs) (r := (ro, rn)) (.tmp 15) (.tmp 57) ?_ ?_ ?_ ?_ u1.out N1.out.b0 ?_); rfl; rfl; rfl; rfl)
        have Q := boxU w6 #[.int .i64 0, .string ⟨#[]⟩, .string ⟨#[]⟩, .string ⟨#[]⟩, .string ⟨#[]⟩, .string ⟨#[]⟩, .slice none 0 0] cs
        generalize World.setRow (w6.alloc (.cells #[.int .i64 0, .string ⟨#[]⟩, .string ⟨#[]⟩, .string ⟨#[]⟩, .string ⟨#[]⟩, .string ⟨#[]⟩, .slice none 0 0] 27)) w6.heap.size cs = X6 at Q ⊢
        have hb := Q.1
        replace HT := qh9 (HT.out.below hb)
        replace HW := qc9 HW hb
        replace k0 := qh9 (k0.out.below hb)
        replace k1 := qh9 (k1.out.below hb)
        replace B0 := qh9 (B0.out.keep hb)
        replace B1 := qh9 (B1.out.keep hb)
        replace BS := qh9 (BS.out.keep hb)
        replace u1 := qh9 (u1.out.below hb)
        have U1 := qh9 Q.2
        clear hb Q N1
        clear HA
        obtain ⟨s0, s1⟩ := And.intro BS.out.c0 BS.out.c1
        obtain ⟨f0, f1, f2, f3, f4, f5, f6⟩ := Bx.c (W := X6) (a0 := .int .i64 1) (a1 := .string (nt x)) (a2 := .string (dt x)) (a3 := .string ⟨#[]⟩) (a4 := .string ⟨#[]⟩) (a5 := .string ⟨#[]⟩) (a6 := .slice none 0 0) B0.out
        obtain ⟨g0, g1, g2, g3, g4, g5, g6⟩ := Bx.c (W := X6) (a0 := .int .i64 1) (a1 := .string (nt y)) (a2 := .string (dt y)) (a3 := .string ⟨#[]⟩) (a4 := .string ⟨#[]⟩) (a5 := .string ⟨#[]⟩) (a6 := .slice none 0 0) B1.out
        go_wp2_with fail
        clear s0 s1 f0 f1 f2 f3 f4 f5 f6 g0 g1 g2 g3 g4 g5 g6
        have hb : Below X6.heap.size X6 (X6.alloc (.cells #[.int .i64 1, .string (nt x), .string (dt x), .string ⟨#[]⟩, .string ⟨#[]⟩, .string ⟨#[]⟩, .slice none 0 0, .int .i64 1, .string (nt y), .string (dt y), .string ⟨#[]⟩, .string ⟨#[]⟩, .string ⟨#[]⟩, .slice none 0 0] 27)) := Below.alloc (Below.refl _ _) (Nat.le_refl _) _
        have hA0 : Ar (X6.alloc (.cells #[.int .i64 1, .string (nt x), .string (dt x), .string ⟨#[]⟩, .string ⟨#[]⟩, .string ⟨#[]⟩, .slice none 0 0, .int .i64 1, .string (nt y), .string (dt y), .string ⟨#[]⟩, .string ⟨#[]⟩, .string ⟨#[]⟩, .slice none 0 0] 27)) [.num x, .num y] (.slice (some ⟨X6.heap.size, 0, none⟩) 2 2) := ar_new2 k0.out k1.out
        generalize X6.alloc (.cells #[.int .i64 1, .string (nt x), .string (dt x), .string ⟨#[]⟩, .string ⟨#[]⟩, .string ⟨#[]⟩, .slice none 0 0, .int .i64 1, .string (nt y), .string (dt y), .string ⟨#[]⟩, .string ⟨#[]⟩, .string ⟨#[]⟩, .slice none 0 0] 27) = Y2 at hb hA0 ⊢
        replace HT := qh9 (HT.out.below hb)
        replace HW := qc9 HW hb
        replace k0 := qh9 (k0.out.below hb)
        replace k1 := qh9 (k1.out.below hb)
        replace B0 := qh9 (B0.out.keep hb)
        replace B1 := qh9 (B1.out.keep hb)
        replace BS := qh9 (BS.out.keep hb)
        replace u1 := qh9 (u1.out.below hb)
        replace U1 := qh9 (U1.out.keep hb)
        have HA := qh9 hA0
        clear hb hA0
        with_reducible refine (CR.out _ _ HA.out HT.out).mono ?_
        rintro e w7 ⟨ds, rfl, u2, hb⟩
        replace HT := qh9 (HT.out.below hb)
        replace HW := qc9 HW hb
        replace k0 := qh9 (k0.out.below hb)
        replace k1 := qh9 (k1.out.below hb)
        replace B0 := qh9 (B0.out.keep hb)
        replace B1 := qh9 (B1.out.keep hb)
        replace BS := qh9 (BS.out.keep hb)
        replace u1 := qh9 (u1.out.below hb)
        replace U1 := qh9 (U1.out.keep hb)
        clear hb
        replace u2 := qh9 u2
        have N1 := qh9 (Bx1.new w7 #[.int .i64 0, .string ⟨#[]⟩, .string ⟨#[]⟩, .string ⟨#[]⟩, .string ⟨#[]⟩, .string ⟨#[]⟩, .slice none 0 0])
        go_upto_region 18 with ((with_reducible refine storeU (w1 := w7) (g := w7.heap.size) (cs := ds) (r := (ro, rn)) (.tmp 17) (.tmp 65) ?_ ?_ ?_ ?_ u2.out N1.out.b0 ?_); rfl; rfl; rfl; rfl)
        have Q := boxU w7 #[.int .i64 0, .string ⟨#[]⟩, .string ⟨#[]⟩, .string ⟨#[]⟩, .string ⟨#[]⟩, .string ⟨#[]⟩, .slice none 0 0] ds
        generalize World.setRow (w7.alloc (.cells #[.int .i64 0, .string ⟨#[]⟩, .string ⟨#[]⟩, .string ⟨#[]⟩, .string ⟨#[]⟩, .string ⟨#[]⟩, .slice none 0 0] 27)) w7.heap.size ds = X7 at Q ⊢
        have hb := Q.1
        replace HT := qh9 (HT.out.below hb)
        replace HW := qc9 HW hb
        replace k0 := qh9 (k0.out.below hb)
        replace k1 := qh9 (k1.out.below hb)
        replace B0 := qh9 (B0.out.keep hb)
        replace B1 := qh9 (B1.out.keep hb)
        replace BS := qh9 (BS.out.keep hb)
        replace u1 := qh9 (u1.out.below hb)
        replace U1 := qh9 (U1.out.keep hb)
        replace u2 := qh9 (u2.out.below hb)
        have U2 := qh9 Q.2
        clear hb Q N1
        clear HA
        go_wp2_with (first | ((with_reducible refine loadU (.tmp 15) ?_ ?_ ?_ U1.out u1.out ?_); rfl; rfl; rfl) | ((with_reducible refine loadUG (.tmp 15) ?_ ?_ ?_ U1.out u1.out ?_); rfl; rfl; rfl) | ((with_reducible refine loadU (.tmp 17) ?_ ?_ ?_ U2.out u2.out ?_); rfl; rfl; rfl) | ((with_reducible refine loadUG (.tmp 17) ?_ ?_ ?_ U2.out u2.out ?_); rfl; rfl; rfl))
        with_reducible refine (eqU u1.out u2.out).mono ?_
        rintro e w8 ⟨rfl, hb⟩
        replace HT := qh9 (HT.out.below hb)
        replace HW := qc9 HW hb
        replace k0 := qh9 (k0.out.below hb)
        replace k1 := qh9 (k1.out.below hb)
        replace B0 := qh9 (B0.out.keep hb)
        replace B1 := qh9 (B1.out.keep hb)
        replace BS := qh9 (BS.out.keep hb)
        replace u1 := qh9 (u1.out.below hb)
        replace U1 := qh9 (U1.out.keep hb)
        replace u2 := qh9 (u2.out.below hb)
        replace U2 := qh9 (U2.out.keep hb)
        clear hb
        go_wp2
        go_ret
        exact ⟨rfl, HW.out⟩
end Go.Proofs.YtbffnoodpoagcaaGreatDoor
