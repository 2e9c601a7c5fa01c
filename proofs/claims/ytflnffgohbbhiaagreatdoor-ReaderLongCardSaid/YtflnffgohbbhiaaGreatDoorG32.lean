/- The reference's Read. -/
import Derived.Test.YtflnffgohbbhiaaGreatDoorG31
import Derived.BigQuiet
import Derived.Test.YtflnffgohbbhiaaGreatDoorG27
import Derived.Deep.RegionHeld3
namespace Go.Proofs.YtflnffgohbbhiaaGreatDoor
open Go Go.RowKit
set_option linter.unusedVariables false
theorem toks_code : ∀ (k : Nat) (l : List UInt8), l.length ≤ k → ∀ (n : Nat) (e p : Int), toksL okP numP sizP n l = .error (e, p) → e ≠ 0 := by
 intro k
 induction k with
 | zero =>
  intro l hl n e p h
  have : l = [] := List.eq_nil_of_length_eq_zero (by omega)
  subst this
  rw [toksL_eq, skipL_nil] at h
  cases h
 | succ k ih =>
  intro l hl n e p h
  rw [toksL_eq] at h
  cases hs : skipL l with
  | none =>
   rw [hs] at h
   simp only [Except.error.injEq, Prod.mk.injEq] at h
   omega
  | some q =>
   rw [hs] at h
   cases q with
   | nil => cases h
   | cons c r =>
    dsimp only at h
    have h1 := skipL_le hs
    simp only [List.length_cons] at h1
    cases ho : oneL okP numP sizP n c r with
    | bad e1 p1 =>
     rw [ho] at h
     simp only [Except.error.injEq, Prod.mk.injEq] at h
     obtain ⟨rfl, rfl⟩ := h
     exact oneL_code ho
    | ok t q =>
     have h4 := oneL_le okP numP sizP ho
     rw [ho] at h
     dsimp only at h
     cases ht : toksL okP numP sizP n q with
     | ok ts => rw [ht] at h; cases h
     | error x =>
      rw [ht] at h
      obtain ⟨e2, p2⟩ := x
      simp only [Except.error.injEq, Prod.mk.injEq] at h
      obtain ⟨rfl, rfl⟩ := h
      exact ih q (by omega) n _ _ ht
theorem scan_code {s : ByteArray} {e p : Int} (h : scanS s = .error (e, p)) : e ≠ 0 := by
 unfold scanS at h
 split at h
 · simp only [Except.error.injEq, Prod.mk.injEq] at h; omega
 · exact toks_code _ _ (Nat.le_refl _) _ _ _ h
theorem scan_num {s : ByteArray} {ts : List Tk} (h : scanS s = .ok ts) : TkN ts := by
 unfold scanS at h
 by_cases hs : 6000 < s.size
 · rw [if_pos hs] at h; cases h
 · rw [if_neg hs] at h
   unfold toksS toksL at h
   obtain ⟨h1, h2, h3⟩ := toks_wf okP numP sizP (P := fun x y => nt (quo x y) = BA x ∧ dt (quo x y) = BA y) (fun b x y _ _ => by
    unfold numP
    dsimp only
    rw [quo_self, BA_LA, BA_LA]
    exact ⟨rfl, rfl⟩) _ _ _ _ h
   exact fun t ht hk => (h3 t ht).2 hk
structure RdR (w w1 wr : World) (g : Nat) (l : List Sy.Pg) (lv : Value) (cur : ByteArray) (R : Except (Int × Int) (List (Ob × Int))) (N : Nat) (v : Value) (xs : List (Ob × Value)) (acc : List (Ob × Int)) (ts : List Tk) (f : Nat) : Prop where
 bel : Below w.heap.size w wr
 e : EB wr w.heap.size (.int .i64 0) (.int .i64 0)
 ps : PsR w1 wr g l lv cur ts
 lt : w.heap.size < g
 it : ItL (g + 1) wr v xs
 eq : allF (symL l cur) numK f acc ts = (R, true)
 ac : fsts xs = acc.map (·.1)
 le : acc.length ≤ 100
 wf : WfT ts
 ks : TkS ts
 kn : TkN ts
 sm : ts.length ≤ 700
theorem RdR.keep {w w1 wr w' : World} {g : Nat} {l : List Sy.Pg} {lv : Value} {cur : ByteArray} {R : Except (Int × Int) (List (Ob × Int))} {N : Nat} {v : Value} {xs : List (Ob × Value)} {acc : List (Ob × Int)} {ts : List Tk} {f : Nat} (h : RdR w w1 wr g l lv cur R N v xs acc ts f) (hb : Below wr.heap.size wr w') : RdR w w1 w' g l lv cur R N v xs acc ts f :=
 ⟨chain5 h.bel hb, h.e.keep hb, h.ps.keep hb, h.lt, h.it.keep hb, h.eq, h.ac, h.le, h.wf, h.ks, h.kn, h.sm⟩
set_option maxHeartbeats 8000000 in
set_option maxRecDepth 100000 in
theorem readR5 (s cur : ByteArray) (l : List Sy.Pg) (lv : Value) (w : World) (hl : Sy.PgV w l lv) (hpb : PgB l) (hn : SmS s) : Calls Tryz.prog 17 #[lv, .string cur, .string s] w (OutRd w (readS l cur s)) := by
 have H0 : Hid (EB (w.alloc (.cells #[.int .i64 0, .int .i64 0] 26)) w.heap.size (.int .i64 0) (.int .i64 0)) := EB.new _ _ _
 have HB0 : Hid (Below w.heap.size w (w.alloc (.cells #[.int .i64 0, .int .i64 0] 26))) := Below.alloc (Below.refl _ _) (Nat.le_refl _) _
 have KT := Lib.hid (tokensR s (w.alloc (.cells #[.int .i64 0, .int .i64 0] 26)) (by have := hn.size; omega))
 have HL := Lib.hid (hl.keep HB0.out)
 have hl' := hl
 obtain ⟨lA, lc, hlv, _⟩ := hl'
 subst hlv
 unfold readS
 cases hS : scanS s with
 | error y =>
  obtain ⟨x, p⟩ := y
  rw [hS] at KT
  have her : (x != 0) = true := by rw [bne_iff_ne]; exact scan_code hS
  clear hS hl hpb hn
  go_enter Tryz.func17, Tryz.ntmps17
  go_wp2_with fail
  refine KT.out.mono ?_
  rintro e w1 ⟨hb, he⟩
  replace he : e = _ := he
  subst he
  have HE1 : Hid (EB (w1.alloc (.cells #[.int .i64 x, .int .i64 p] 26)) w1.heap.size (.int .i64 x) (.int .i64 p)) := EB.new _ _ _
  have hal := Below.alloc (Below.refl w1.heap.size w1) (Nat.le_refl _) (.cells #[.int .i64 x, .int .i64 p] 26)
  replace H0 := Lib.hid ((H0.out.keep hb).keep hal)
  replace HB0 := Lib.hid (chain5 (chain5 HB0.out hb) hal)
  have hlt : w.heap.size < w1.heap.size := by have := hb.size; simp at this; omega
  clear hb hal KT HL
  go_upto_region 2 with fail
  generalize w1.alloc (.cells #[.int .i64 x, .int .i64 p] 26) = W2 at HE1 H0 HB0 ⊢
  generalize w1.heap.size = ge at HE1 hlt ⊢
  have n1 : ¬ ge = w.heap.size := by omega
  have n2 : ¬ w.heap.size = ge := by omega
  have c0 := HE1.out.c0
  have c1 := HE1.out.c1
  go_upto_region 3 with fail
  have HEd := Lib.hid (HE1.out.keep ((Below.refl W2.heap.size W2).drew))
  have H0d := Lib.hid (H0.out.keep ((Below.refl W2.heap.size W2).drew))
  have dc0 := HEd.out.c0
  have dc1 := HEd.out.c1
  have e0 := H0.out.c0
  have e1 := H0.out.c1
  obtain ⟨f0, f1⟩ := H0.out.frs
  have de0 := H0d.out.c0
  have de1 := H0d.out.c1
  obtain ⟨df0, df1⟩ := H0d.out.frs
  go_wp2_with fail
  apply mergeG
  case h =>
   intro hG
   go_region_with (fail)
   all_goals exact hG
  clear c0 c1 dc0 dc1 e0 e1 f0 f1 de0 de1 df0 df1
  go_wp2_with fail
  exact bodyPost_ret (resTE rfl rfl rfl ((H0.out.cell2 _ _).keep ((Below.refl _ _).drew))) rfl ⟨((HB0.out.setCell (Nat.le_refl _) _).setCell (Nat.le_refl _) _).drew, rfl⟩
 | ok ts =>
  rw [hS] at KT
  show Calls _ _ _ _ (OutRd w (readL (symL l cur) numK ts))
  obtain ⟨h1, h2, h3⟩ := scanS_ok hS
  have h4 := readL_eq (symL l cur) numK ts h1
  obtain ⟨R, hR⟩ : ∃ R, readL (symL l cur) numK ts = R := ⟨_, rfl⟩
  rw [hR] at h4 ⊢
  have HW : Hid (WfT ts ∧ TkS ts ∧ TkN ts ∧ ts.length ≤ 700) := ⟨h1, h3, scan_num hS, hn.toks ts hS⟩
  have HQ0 := Lib.hid h4
  have HPB := Lib.hid hpb
  clear h1 h2 h3 h4 hR hS hl hpb hn
  go_enter Tryz.func17, Tryz.ntmps17
  go_wp2_with fail
  refine KT.out.mono ?_
  rintro e w1 ⟨hb, tv, rfl, hv⟩
  have hv' := hv
  obtain ⟨tA, tc, htv, _⟩ := hv'
  subst htv
  have hal := al2 w1 (.cells #[.int .i64 0, .int .i64 0] 26) (.cells #[.slice lA l.length lc, .string cur, .slice tA ts.length tc, .int .i64 0] 79)
  have hlt : w.heap.size < w1.heap.size + 1 := by have := hb.size; simp at this; omega
  have HE : Hid (RdR w w1 ((w1.alloc (.cells #[.int .i64 0, .int .i64 0] 26)).alloc (.cells #[.slice lA l.length lc, .string cur, .slice tA ts.length tc, .int .i64 0] 79)) (w1.heap.size + 1) l (.slice lA l.length lc) cur R ts.length (.slice none 0 0) [] [] ts ts.length) :=
   ⟨chain5 (chain5 HB0.out hb) hal, (H0.out.keep hb).keep hal, ⟨_, ts, 0, by
    have := heap_alloc_new (w1.alloc (.cells #[.int .i64 0, .int .i64 0] 26)) (.cells #[.slice lA l.length lc, .string cur, .slice tA ts.length tc, .int .i64 0] 79)
    have h2 : (w1.alloc (.cells #[.int .i64 0, .int .i64 0] 26)).heap.size = w1.heap.size + 1 := by simp
    rw [h2] at this
    exact this, Nat.le_succ _, hal, HL.out.keep hb, hv.less (Nat.zero_le _), rfl, by have := HW.out.2.2.2; omega⟩, hlt, ItL.start _ _, HQ0.out, rfl, by simp, HW.out.1, HW.out.2.1, HW.out.2.2.1, HW.out.2.2.2⟩
  clear hb hv hal hlt HW HQ0 HL HB0 H0 KT
  have c0 : (w1.alloc (.cells #[.int .i64 0, .int .i64 0] 26)).cell? ⟨w1.heap.size, 0, none⟩ = some (.int .i64 0) := (EB.new w1 _ _).c0
  go_upto_region 6 with fail
  clear c0
  generalize ((w1.alloc (.cells #[.int .i64 0, .int .i64 0] 26)).alloc (.cells #[.slice lA l.length lc, .string cur, .slice tA ts.length tc, .int .i64 0] 79)) = W2 at HE ⊢
  obtain ⟨N, hNN⟩ : ∃ N, ts.length = N := ⟨_, rfl⟩
  obtain ⟨f0, hf0⟩ : ∃ f0, f0 = N := ⟨_, rfl⟩
  rw [hNN] at HE
  obtain ⟨g, hg⟩ : ∃ g, g = w1.heap.size + 1 := ⟨_, rfl⟩
  rw [← hg] at HE ⊢
  obtain ⟨lv, hlv⟩ : ∃ lv, Value.slice lA l.length lc = lv := ⟨_, rfl⟩
  rw [hlv] at HE
  clear hg hNN hf0 hlv
  have H00 := HE
  clear HE
  go_loopw [11] (fun v wr => ∃ (xs : List (Ob × Value)) (acc : List (Ob × Int)) (t : Tk) (r : List Tk) (f' : Nat) (sl : Value), sl = v ∧ Hid (RdR w w1 wr g l lv cur R N sl xs acc (t :: r) f')) (fun _ wr => lfN g wr)
  case atStart =>
   cases ts with
   | nil => exact absurd rfl H00.out.wf.ne
   | cons t r => exact ⟨[], [], t, r, _, _, rfl, H00⟩
  case round =>
   clear H00
   obtain ⟨xs, acc, t, r, f', sl, rfl, HE⟩ := hrel
   obtain ⟨wo, rfl⟩ : ∃ wo : World, wo = wr := ⟨_, rfl⟩
   have HM := Lib.hid HE.out.ps.lfN
   obtain ⟨f2, hf2⟩ := all_some HE.out.eq
   subst hf2
   obtain ⟨tk, tp, tq, tt, td⟩ := t
   obtain ⟨A, cc, hsl⟩ := HE.out.it.lenv
   obtain ⟨n, hn⟩ : ∃ n, xs.length = n := ⟨_, rfl⟩
   rw [hn] at hsl
   subst hsl
   have hq := HE.out.eq
   rw [allF_tk] at hq
   have hal : acc.length = n := by
    have := congrArg List.length HE.out.ac
    rw [fsts_len, List.length_map] at this
    omega
   have hle := HE.out.le
   by_cases k0 : tk = 0
   · rw [if_pos k0] at hq
     have HQ : Hid (Except.ok acc = R) := by injection hq
     have e0 : (tk != 0) = false := by rw [k0]; rfl
     clear hq k0 hal hn hle
     obtain ⟨b, o, nn, c, j, HC0⟩ := HE.out.ps.open
     have c2 := HC0.c2
     have c3 := HC0.c3
     have t0 := HC0.t0
     have hj := HC0.hj
     have hnn := HC0.hn
     have hj0 : (0 : Int) ≤ (j : Int) := by omega
     have hj1 : (j : Int) < (nn : Int) := by omega
     have HC1 := HC0.more ((Below.refl wo.heap.size wo).drew) HE.out.ps.lt HE.out.ps.bel
     have dc2 := HC1.c2
     have dc3 := HC1.c3
     have dt0 := HC1.t0
     clear HC0 HC1
     go_wp2_with fail
     go_quiet (fail)
     clear c2 c3 t0 dc2 dc3 dt0 hj hnn hj0 hj1
     replace HE := Lib.hid (HE.out.keep (below_drN5 wo nq))
     generalize wo.drewN nq = w3 at HE ⊢
     go_wp2_with (refine EB.store (.tmp 7) (.tmp 96) rfl rfl w.heap.size 0 0 _ _ rfl rfl HE.out.e ?_)
     refine bodyPost_ret (resTE rfl rfl rfl (HE.out.e.set _ _)) rfl ?_
     rw [← HQ.out]
     refine ⟨bel_set _ HE.out.bel (Nat.le_refl _), _, xs, rfl, ?_, HE.out.ac⟩
     exact (HE.out.it.rowX (by have := HE.out.lt; omega) _).less (by have := HE.out.lt; omega)
   · rw [if_neg k0] at hq
     have e0 : (tk != 0) = true := by rw [bne_iff_ne]; exact k0
     obtain ⟨b, o, nn, c, j, HC0⟩ := HE.out.ps.open
     have c2 := HC0.c2
     have c3 := HC0.c3
     have t0 := HC0.t0
     have hj := HC0.hj
     have hnn := HC0.hn
     have hj0 : (0 : Int) ≤ (j : Int) := by omega
     have hj1 : (j : Int) < (nn : Int) := by omega
     have HC1 := HC0.more ((Below.refl wo.heap.size wo).drew) HE.out.ps.lt HE.out.ps.bel
     have dc2 := HC1.c2
     have dc3 := HC1.c3
     have dt0 := HC1.t0
     clear HC0 HC1
     go_wp2_with fail
     go_quiet (fail)
     clear c2 c3 t0 dc2 dc3 dt0 hj hnn hj0 hj1
     replace HE := Lib.hid (HE.out.keep (below_drN5 wo nq))
     generalize wo.drewN nq = w3 at HE ⊢
     clear e0
     obtain ⟨b, o, nn, c, j, HC0⟩ := HE.out.ps.open
     have c2 := HC0.c2
     have c3 := HC0.c3
     have t0 := HC0.t0
     have t1 := HC0.t1
     have hj := HC0.hj
     have hnn := HC0.hn
     have hj0 : (0 : Int) ≤ (j : Int) := by omega
     have hj1 : (j : Int) < (nn : Int) := by omega
     have HC1 := HC0.more ((Below.refl w3.heap.size w3).drew) HE.out.ps.lt HE.out.ps.bel
     have dc2 := HC1.c2
     have dc3 := HC1.c3
     have dt0 := HC1.t0
     have dt1 := HC1.t1
     clear HC0 HC1
     go_wp2_with fail
     go_quiet (fail)
     clear c2 c3 t0 t1 dc2 dc3 dt0 dt1 hj hnn hj0 hj1
     replace HE := Lib.hid (HE.out.keep (below_drN5 w3 nq))
     generalize w3.drewN nq = w4 at HE ⊢
     obtain ⟨b, o, nn, c, j, HC0⟩ := HE.out.ps.open
     have c2 := HC0.c2
     have c3 := HC0.c3
     have t0 := HC0.t0
     have hj := HC0.hj
     have hnn := HC0.hn
     have hj0 : (0 : Int) ≤ (j : Int) := by omega
     have hj1 : (j : Int) < (nn : Int) := by omega
     have HC1 := HC0.more ((Below.refl w4.heap.size w4).drew) HE.out.ps.lt HE.out.ps.bel
     have dc2 := HC1.c2
     have dc3 := HC1.c3
     have dt0 := HC1.t0
     clear HC0 HC1
     go_wp2_with fail
     go_quiet (fail)
     clear c2 c3 t0 dc2 dc3 dt0 hj hnn hj0 hj1
     replace HE := Lib.hid (HE.out.keep (below_drN5 w4 nq))
     generalize w4.drewN nq = w6 at HE ⊢
     by_cases hb1 : acc.length = 100 ∧ tk ≠ 2 ∧ tk ≠ 3
     · rw [if_pos hb1] at hq
       have HQ : Hid (Except.error (2, tp) = R) := by injection hq
       have en : (100 : Int) ≤ (n : Int) := by omega
       have e2 : (tk != 2) = true := by rw [bne_iff_ne]; exact hb1.2.1
       have e3 : (tk != 3) = true := by rw [bne_iff_ne]; exact hb1.2.2
       clear hq k0 hal hn hb1 hle
       go_wp2_with fail
       refine (badR 2 tp _).mono ?_
       rintro e w7 ⟨rfl, hb⟩
       replace HE := Lib.hid (HE.out.keep hb)
       clear hb
       go_wp2_with (refine EB.store (.tmp 7) (.tmp 76) rfl rfl w.heap.size 2 tp _ _ rfl rfl HE.out.e ?_)
       refine bodyPost_ret (resTE rfl rfl rfl (HE.out.e.set _ _)) rfl ?_
       rw [← HQ.out]
       exact ⟨bel_set _ HE.out.bel (Nat.le_refl _), rfl⟩
     · rw [if_neg hb1] at hq
       have hin := (par_in (symL l cur) numK (2 * (r.length + 1) + 2)).1 0 ((⟨tk, tp, tq, tt, td⟩ : Tk) :: r) HE.out.wf (by simp only [List.length_cons]; omega)
       have ec : (¬ (100 : Int) ≤ (n : Int)) ∨ ((100 : Int) ≤ (n : Int) ∧ (tk != 2) = false) ∨ ((100 : Int) ≤ (n : Int) ∧ (tk != 2) = true ∧ (tk != 3) = false) := by
        by_cases h100 : (100 : Int) ≤ (n : Int)
        · right
          by_cases k2 : tk = 2
          · left; exact ⟨h100, by rw [k2]; rfl⟩
          · right
            refine ⟨h100, by rw [bne_iff_ne]; exact k2, ?_⟩
            have k3 : tk = 3 := Classical.byContradiction fun e => hb1 ⟨by omega, k2, e⟩
            rw [k3]; rfl
        · exact .inl h100
       have KO0 : Hid (∀ w, PsR w1 w g l lv cur ((⟨tk, tp, tq, tt, td⟩ : Tk) :: r) → Calls Tryz.prog 37 #[.pointer (some ⟨g, 0, none⟩), .int .i64 0] w (OutER w1 w g l lv cur (parF (symL l cur) numK (2 * (r.length + 1) + 2) 0 ((⟨tk, tp, tq, tt, td⟩ : Tk) :: r)))) := fun w h => obAllR5 _ w1 w g l lv cur 0 _ h HE.out.wf HE.out.ks HE.out.kn HPB.out (Int.le_refl _) (by omega) hin
       cases hp : parF (symL l cur) numK (2 * (r.length + 1) + 2) 0 ((⟨tk, tp, tq, tt, td⟩ : Tk) :: r) with
       | out => exact absurd hp hin
       | bad x q =>
        rw [hp] at hq
        have HQ : Hid (Except.error (x, q) = R) := by injection hq
        have KO : Hid (∀ w, PsR w1 w g l lv cur ((⟨tk, tp, tq, tt, td⟩ : Tk) :: r) → Calls Tryz.prog 37 #[.pointer (some ⟨g, 0, none⟩), .int .i64 0] w (OutER w1 w g l lv cur (.bad x q))) := fun w h => by
         have := KO0.out w h
         rw [hp] at this
         exact this
        have her : (x != 0) = true := by rw [bne_iff_ne]; exact par_code hp
        clear hq k0 hal hn hb1 hle hin KO0 hp
        rcases ec with en | ⟨en, e2⟩ | ⟨en, e2, e3⟩
        all_goals
         go_wp2_with fail
         refine (KO.out _ HE.out.ps).mono ?_
         rintro e w5 ⟨rfl, hb⟩
         have HA := Lib.hid (al2 w5 (.cells #[.int .i64 0, .string ⟨#[]⟩, .string ⟨#[]⟩, .string ⟨#[]⟩, .string ⟨#[]⟩, .string ⟨#[]⟩, .slice none 0 0] 47) (.cells #[.int .i64 x, .int .i64 q] 26))
         have hlt := HE.out.lt
         have hsz := HE.out.e.lt
         have hlt5 := hb.size
         have HB : Hid (EB ((w5.alloc (.cells #[.int .i64 0, .string ⟨#[]⟩, .string ⟨#[]⟩, .string ⟨#[]⟩, .string ⟨#[]⟩, .string ⟨#[]⟩, .slice none 0 0] 47)).alloc (.cells #[.int .i64 x, .int .i64 q] 26)) w.heap.size (.int .i64 0) (.int .i64 0) ∧ Below w.heap.size w ((w5.alloc (.cells #[.int .i64 0, .string ⟨#[]⟩, .string ⟨#[]⟩, .string ⟨#[]⟩, .string ⟨#[]⟩, .string ⟨#[]⟩, .slice none 0 0] 47)).alloc (.cells #[.int .i64 x, .int .i64 q] 26))) := ⟨(HE.out.e.but hb (by omega)).keep HA.out, chain5 (HE.out.bel.trans (hb.below (Nat.le_of_lt hlt) (Nat.le_of_lt hsz))) HA.out⟩
         have HE2 : Hid (EB ((w5.alloc (.cells #[.int .i64 0, .string ⟨#[]⟩, .string ⟨#[]⟩, .string ⟨#[]⟩, .string ⟨#[]⟩, .string ⟨#[]⟩, .slice none 0 0] 47)).alloc (.cells #[.int .i64 x, .int .i64 q] 26)) (w5.heap.size + 1) (.int .i64 x) (.int .i64 q)) := newE _ _ _ _
         clear hb HE HA
         go_upto_region 12 with fail
         generalize ((w5.alloc (.cells #[.int .i64 0, .string ⟨#[]⟩, .string ⟨#[]⟩, .string ⟨#[]⟩, .string ⟨#[]⟩, .string ⟨#[]⟩, .slice none 0 0] 47)).alloc (.cells #[.int .i64 x, .int .i64 q] 26)) = W5 at HB HE2 ⊢
         obtain ⟨ge, hge⟩ : ∃ ge, w5.heap.size + 1 = ge := ⟨_, rfl⟩
         rw [hge] at HE2 ⊢
         have n1 : ¬ ge = w.heap.size := by omega
         have n2 : ¬ w.heap.size = ge := by omega
         clear hge hlt hsz hlt5
         have c0 := HE2.out.c0
         have c1 := HE2.out.c1
         go_upto_region 13 with fail
         have HEd := Lib.hid (HE2.out.keep ((Below.refl W5.heap.size W5).drew))
         have H0d := Lib.hid (HB.out.1.keep ((Below.refl W5.heap.size W5).drew))
         have dc0 := HEd.out.c0
         have dc1 := HEd.out.c1
         have e0 := HB.out.1.c0
         have e1 := HB.out.1.c1
         obtain ⟨f0, f1⟩ := HB.out.1.frs
         have de0 := H0d.out.c0
         have de1 := H0d.out.c1
         obtain ⟨df0, df1⟩ := H0d.out.frs
         go_wp2_with fail
         apply mergeG
         case h =>
          intro hG
          go_region_with (fail)
          all_goals exact hG
         clear c0 c1 dc0 dc1 e0 e1 f0 f1 de0 de1 df0 df1
         go_wp2_with fail
         refine bodyPost_ret (resTE rfl rfl rfl ((HB.out.1.cell2 _ _).keep ((Below.refl _ _).drew))) rfl ?_
         rw [← HQ.out]
         exact ⟨((HB.out.2.setCell (Nat.le_refl _) _).setCell (Nat.le_refl _) _).drew, rfl⟩
       | ok ob r1 =>
        rw [hp] at hq
        have hpk := (par_ok (symL l cur) numK (2 * (r.length + 1) + 2)).1 0 _ HE.out.wf
        rw [hp] at hpk
        have hsf := (par_suf (symL l cur) numK (2 * (r.length + 1) + 2)).1 0 _ ob r1 hp
        have hsm := objs_small (symL l cur) numK HE.out.wf HE.out.sm 0 hp
        have hq2 : allF (symL l cur) numK f2 (acc ++ [(ob, tp)]) r1 = (R, true) := by
         rw [← hq]
         show _ = if 3000 < ob.nodes then _ else _
         rw [if_neg (by omega)]
        have KO : Hid (∀ w, PsR w1 w g l lv cur ((⟨tk, tp, tq, tt, td⟩ : Tk) :: r) → Calls Tryz.prog 37 #[.pointer (some ⟨g, 0, none⟩), .int .i64 0] w (OutER w1 w g l lv cur (.ok ob r1))) := fun w h => by
         have := KO0.out w h
         rw [hp] at this
         exact this
        have HQ := Lib.hid hq2
        have HPK := Lib.hid (And.intro hpk.1 (And.intro hpk.2.1 (And.intro (HE.out.ks.suf hsf) (HE.out.kn.suf hsf))))
        have hxl : xs.length ≤ 100000 := by omega
        have hn99 : Hid (acc.length ≤ 99) := by
         show _ ≤ _
         rcases ec with en | ⟨en, e2⟩ | ⟨en, e2, e3⟩
         · omega
         · exfalso
           have k2 : tk = 2 := by simpa using e2
           have k5 : ¬ tk = 5 := by omega
           have k6 : ¬ tk = 6 := by omega
           have k7 : ¬ tk = 7 := by omega
           have : parF (symL l cur) numK (2 * (r.length + 1) + 2) 0 ((⟨tk, tp, tq, tt, td⟩ : Tk) :: r) = .bad 12 tp := by rw [show 2 * (r.length + 1) + 2 = (2 * (r.length + 1) + 1) + 1 from rfl, parF_tk, if_neg k0, if_neg k5, if_neg k6, if_neg k7, if_pos (Or.inl k2)]
           rw [hp] at this
           cases this
         · exfalso
           have k2 : tk = 3 := by simpa using e3
           have k5 : ¬ tk = 5 := by omega
           have k6 : ¬ tk = 6 := by omega
           have k7 : ¬ tk = 7 := by omega
           have : parF (symL l cur) numK (2 * (r.length + 1) + 2) 0 ((⟨tk, tp, tq, tt, td⟩ : Tk) :: r) = .bad 12 tp := by rw [show 2 * (r.length + 1) + 2 = (2 * (r.length + 1) + 1) + 1 from rfl, parF_tk, if_neg k0, if_neg k5, if_neg k6, if_neg k7, if_pos (Or.inr k2)]
           rw [hp] at this
           cases this
        have hn100 : ¬ (100 : Int) ≤ (n : Int) := by have := hn99.out; omega
        have hnb : ¬ (3000 : Int) < (ob.nodes : Int) := by omega
        have hns := Lib.hid hsm
        clear hq hq2 k0 hal hn hb1 hle hin KO0 hp hpk hsf hsm ec
        go_wp2_with fail
        refine (KO.out _ HE.out.ps).mono ?_
        rintro e w5 ⟨p, rfl, hp, hps, hb⟩
        obtain ⟨x0, x1, x2, x3, x4, x5, hz⟩ := cells7 ob p
        have HZ : Hid (Val7 ob p x0 x1 x2 x3 x4 x5) := hz
        have hA := boxes2_spec w5 ob p (.int .i64 0) (.int .i64 0)
        have hlt := HE.out.lt
        have hsz := HE.out.e.lt
        have hgl := HE.out.ps.lt
        have hlt5 := hb.size
        have HI5 : Hid (ItL (g + 1) (boxes2 w5 ob p (.int .i64 0) (.int .i64 0)) (.slice A n cc) xs) := (HE.out.it.but hb (Nat.lt_succ_self _)).keep hA.1
        have HW5 : Hid (PsR w1 (boxes2 w5 ob p (.int .i64 0) (.int .i64 0)) g l lv cur r1 ∧ EB (boxes2 w5 ob p (.int .i64 0) (.int .i64 0)) w.heap.size (.int .i64 0) (.int .i64 0) ∧ Below w.heap.size w (boxes2 w5 ob p (.int .i64 0) (.int .i64 0))) := ⟨hps.keep hA.1, (HE.out.e.but hb (by omega)).keep hA.1, chain5 (HE.out.bel.trans (hb.below (Nat.le_of_lt hlt) (Nat.le_of_lt hsz))) hA.1⟩
        have HP5 : Hid (Pair (boxes2 w5 ob p (.int .i64 0) (.int .i64 0)) (fun b => g + 1 ≤ b ∧ b < (boxes2 w5 ob p (.int .i64 0) (.int .i64 0)).heap.size ∧ (Value.slice A n cc).ownBlock ≠ some b) ob p) := hp.keep (fun b hb' => ⟨by omega, by have := hA.1.size; omega, fun e => by have := (own_lt HE.out.it.own b e).2; omega⟩) (fun b hb' => hA.1.block b hb'.2)
        have HE2 := Lib.hid hA.2.2
        have HQ5 : Hid (ObB (boxes2 w5 ob p (.int .i64 0) (.int .i64 0)) w5.heap.size #[x0, x1, x2, x3, x4, x5, p]) := by have := hA.2.1; rw [hz] at this; exact this
        have HPP := Lib.hid hp
        have HLA : Hid (acc.length ≤ 99 ∧ fsts xs = acc.map (·.1) ∧ w.heap.size < g) := ⟨hn99.out, HE.out.ac, hlt⟩
        have HSM := Lib.hid HE.out.sm
        clear hA hz hp hps hb HE hlt hsz hgl hlt5
        go_upto_region 12 with (first | (refine storeV rfl (.tmp 14) (.tmp 80) rfl w5.heap.size ob p rfl rfl HPP.out 47 _ (heap_old1 _ _ _) rfl ?_) | (refine EB.store (.tmp 15) (.tmp 81) rfl rfl (w5.heap.size + 1) 0 0 _ _ rfl rfl ((newE w5 _ _ _).row (by omega) _) ?_))
        unfold boxes2 at HI5 HW5 HP5 HE2 HQ5
        generalize (((w5.alloc (.cells #[.int .i64 0, .string ⟨#[]⟩, .string ⟨#[]⟩, .string ⟨#[]⟩, .string ⟨#[]⟩, .string ⟨#[]⟩, .slice none 0 0] 47)).alloc (.cells #[.int .i64 0, .int .i64 0] 26)).setRow w5.heap.size (cellsO ob p).toArray).setRow (w5.heap.size + 1) #[.int .i64 0, .int .i64 0] = W5 at HI5 HW5 HP5 HE2 HQ5 ⊢
        have l0 := HE2.out.c0
        have l1 := HE2.out.c1
        go_upto_region 14 with fail
        clear l0 l1
        obtain ⟨m0, m1, m2, m3, m4, m5, m6⟩ := HQ5.out.c
        have KN := nodesR5 ob p W5 _ (fun b hb => hb.2.1) HP5.out (by have := hns.out; omega)
        unfold vO at KN
        rw [HZ.out] at KN
        have HKN := Lib.hid KN
        clear KN
        go_wp2_with fail
        refine HKN.out.mono ?_
        rintro e w6 ⟨rfl, hb⟩
        replace HI5 := Lib.hid (HI5.out.keep hb)
        replace HW5 : Hid (PsR w1 w6 g l lv cur r1 ∧ EB w6 w.heap.size (.int .i64 0) (.int .i64 0) ∧ Below w.heap.size w w6) := ⟨HW5.out.1.keep hb, HW5.out.2.1.keep hb, chain5 HW5.out.2.2 hb⟩
        replace HP5 : Hid (Pair w6 (fun b => g + 1 ≤ b ∧ b < w6.heap.size ∧ (Value.slice A n cc).ownBlock ≠ some b) ob p) := HP5.out.keep (fun b hb' => ⟨hb'.1, by have := hb.size; omega, hb'.2.2⟩) (fun b hb' => hb.block b hb'.2.1)
        replace HQ5 := Lib.hid (HQ5.out.keep hb)
        clear hb HKN m0 m1 m2 m3 m4 m5 m6 HE2
        obtain ⟨m0, m1, m2, m3, m4, m5, m6⟩ := HQ5.out.c
        have hal := Lib.hid (show Below w6.heap.size w6 (w6.alloc (.cells #[x0, x1, x2, x3, x4, x5, p] 47)) from Below.alloc (Below.refl _ _) (Nat.le_refl _) _)
        have hnw := Lib.hid (heap_alloc_new w6 (.cells #[x0, x1, x2, x3, x4, x5, p] 47))
        have HI6 := Lib.hid (HI5.out.keep hal.out)
        have HP6 : Hid (Pair (w6.alloc (.cells #[x0, x1, x2, x3, x4, x5, p] 47)) (fun b => g + 1 ≤ b ∧ b < (w6.alloc (.cells #[x0, x1, x2, x3, x4, x5, p] 47)).heap.size ∧ (Value.slice A n cc).ownBlock ≠ some b) ob p) := HP5.out.keep (fun b hb' => ⟨hb'.1, by have := hal.out.size; omega, hb'.2.2⟩) (fun b hb' => hal.out.block b hb'.2.1)
        have hsz := Lib.hid (show g + 1 ≤ (w6.alloc (.cells #[x0, x1, x2, x3, x4, x5, p] 47)).heap.size from Nat.lt_of_lt_of_le HW5.out.1.lt hal.out.size)
        go_wp2_with (at_builtin; refine appItem rfl (.tmp 91) (.tmp 93) rfl rfl HI6.out ob p x0 x1 x2 x3 x4 x5 HZ.out w6.heap.size 1 rfl hnw.out HP6.out hxl hsz.out ?_)
        intro v7 w7 hi7 hb7
        have HT7 : Hid (RdR w w1 w7 g l lv cur R N v7 (xs ++ [(ob, p)]) (acc ++ [(ob, tp)]) r1 f2) := ⟨(chain5 HW5.out.2.2 hal.out).trans (hb7.mono (by have := HLA.out.2.2; omega)), (hb7.block _ (by have := HLA.out.2.2; omega)).trans (HW5.out.2.1.keep hal.out), (HW5.out.1.keep hal.out).below hb7 (Nat.lt_succ_self _), HLA.out.2.2, hi7, HQ.out, by rw [fsts_snoc, List.map_append, HLA.out.2.1]; rfl, by rw [List.length_append]; have := HLA.out.1; simp only [List.length_cons, List.length_nil]; omega, HPK.out.1, HPK.out.2.2.1, HPK.out.2.2.2, by have := HPK.out.2.1; have := HSM.out; omega⟩
        have hms : lfN g w7 < lfN g wo := by rw [HM.out, HT7.out.ps.lfN]; exact HPK.out.2.1
        have HW7 := Lib.hid HPK.out.1
        clear hi7 hb7
        go_wp2_with fail
        go_roundw
        case rel =>
         cases r1 with
         | nil => exact absurd rfl HW7.out.ne
         | cons t2 r2 => exact ⟨_, _, t2, r2, f2, _, rfl, HT7⟩
        case measure => exact hms
theorem all_code {sym : Tk → (List UInt8 × List UInt8) × Int} {num : Tk → Rat} : ∀ (f : Nat) (acc : List (Ob × Int)) (ts : List Tk) (e p : Int), allF sym num f acc ts = (.error (e, p), true) → e ≠ 0
 | 0, acc, ts, e, p, h => by simp [allF] at h
 | f + 1, acc, [], e, p, h => by simp [allF] at h
 | f + 1, acc, t :: ts, e, p, h => by
  rw [allF_cons] at h
  split at h
  · simp at h
  split at h
  · simp at h; omega
  split at h
  · simp at h
  · rename_i hp
    simp at h
    rw [← h.1]
    exact par_code hp
  · split at h
    · simp at h; omega
    · exact all_code f _ _ _ _ h
theorem read_code {l : List Sy.Pg} {cur s : ByteArray} {e p : Int} (h : readS l cur s = .error (e, p)) : e ≠ 0 := by
 unfold readS at h
 cases hS : scanS s with
 | error x =>
  rw [hS] at h
  obtain ⟨a, b⟩ := x
  simp only [Except.error.injEq, Prod.mk.injEq] at h
  rw [← h.1]
  exact scan_code hS
 | ok ts =>
  rw [hS] at h
  have h1 := readL_eq (symL l cur) numK ts (scanS_ok hS).1
  dsimp only at h
  rw [h] at h1
  exact all_code _ _ _ _ _ h1
theorem Pair.ones {w : World} {S : Nat → Prop} {o : Ob} {p x0 x1 x2 x3 x4 x5 : Value} (h : Pair w S o p) (hz : Val7 o p x0 x1 x2 x3 x4 x5) : x0.oneCell' = true ∧ x1.oneCell' = true ∧ x2.oneCell' = true ∧ x3.oneCell' = true ∧ x4.oneCell' = true ∧ x5.oneCell' = true ∧ p.oneCell' = true := by
 have h1 := h.one
 rw [hz, Array.all_eq_true_iff_forall_mem] at h1
 exact ⟨h1 _ (by simp), h1 _ (by simp), h1 _ (by simp), h1 _ (by simp), h1 _ (by simp), h1 _ (by simp), h1 _ (by simp)⟩
structure OE (w W : World) (x : Array Value) (u v : Value) : Prop where
 bel : Below w.heap.size w W
 o : ObB W w.heap.size x
 e : EB W (w.heap.size + 1) u v
section
variable {w W W' : World} {x : Array Value} {u v : Value}
theorem OE.keep (h : OE w W x u v) (hb : Below W.heap.size W W') : OE w W' x u v := ⟨chain5 h.bel hb, h.o.keep hb, h.e.keep hb⟩
theorem OE.but {g : Nat} (h : OE w W x u v) (hb : But g W W') (hg : w.heap.size + 1 < g) : OE w W' x u v :=
 ⟨h.bel.trans (hb.below (by omega) h.bel.size), h.o.but hb (by omega), h.e.but hb (by omega)⟩
theorem OE.setE (h : OE w W x u v) (p q : Value) : OE w ((W.setCell ⟨w.heap.size + 1, 0, none⟩ p).setCell ⟨w.heap.size + 1, 1, none⟩ q) x p q :=
 ⟨(h.bel.setCell (Nat.le_succ _) _).setCell (Nat.le_succ _) _, (Below.heap_setCell _ ⟨w.heap.size + 1, 1, none⟩ _ _ (by show w.heap.size ≠ w.heap.size + 1; omega)).trans ((Below.heap_setCell _ ⟨w.heap.size + 1, 0, none⟩ _ _ (by show w.heap.size ≠ w.heap.size + 1; omega)).trans h.o), h.e.cell2 p q⟩
theorem OE.setO {y0 y1 y2 y3 y4 y5 y6 : Value} (h : OE w W #[y0, y1, y2, y3, y4, y5, y6] u v) (x0 x1 x2 x3 x4 x5 x6 : Value) : OE w (set7 W w.heap.size x0 x1 x2 x3 x4 x5 x6) #[x0, x1, x2, x3, x4, x5, x6] u v :=
 ⟨set7_below h.bel (Nat.le_refl _) _ _ _ _ _ _ _, set7_row h.o _ _ _ _ _ _ _, (set7_other _ _ _ _ _ _ _ _ _ _ (by omega)).trans h.e⟩
theorem OE.setO2 (h : OE w W x u v) (y : Array Value) : OE w (W.setRow w.heap.size y) y u v := ⟨bel_set _ h.bel (Nat.le_refl _), setRow_heap _ _ _ _ _ _ h.o, h.e.row (by omega) _⟩
theorem OE.setE2 (h : OE w W x u v) (p q : Value) : OE w (W.setRow (w.heap.size + 1) #[p, q]) x p q := ⟨bel_set _ h.bel (Nat.le_succ _), (setRow_other _ _ _ _ (by omega)).trans h.o, h.e.set p q⟩
theorem OE.new (w : World) : OE w ((w.alloc (.cells #[.int .i64 0, .string ⟨#[]⟩, .string ⟨#[]⟩, .string ⟨#[]⟩, .string ⟨#[]⟩, .string ⟨#[]⟩, .slice none 0 0] 47)).alloc (.cells #[.int .i64 0, .int .i64 0] 26)) #[.int .i64 0, .string ⟨#[]⟩, .string ⟨#[]⟩, .string ⟨#[]⟩, .string ⟨#[]⟩, .string ⟨#[]⟩, .slice none 0 0] (.int .i64 0) (.int .i64 0) := ⟨al2 w _ _, heap_old1 _ _ _, newE _ _ _ _⟩
theorem OE.finOk {y0 y1 y2 y3 y4 y5 y6 : Value} {o : Ob} {p x0 x1 x2 x3 x4 x5 : Value} (h : OE w W #[y0, y1, y2, y3, y4, y5, y6] u v) (hp : Pair W (fun b => w.heap.size + 1 < b ∧ b < W.heap.size) o p) (hz : Val7 o p x0 x1 x2 x3 x4 x5)
 {fn : Func} {r0 r1 : Tmp} {tmps : Array Value} (hf : fn.results = #[.cell r0 47, .cell r1 26]) (h0 : tmps.getD r0 undef = .pointer (some ⟨w.heap.size, 0, none⟩)) (h1 : tmps.getD r1 undef = .pointer (some ⟨w.heap.size + 1, 0, none⟩)) :
 bodyPost Tryz.prog fn (OutOn w (.ok o)) Exit.ret ⟨tmps, []⟩ ((((set7 W w.heap.size x0 x1 x2 x3 x4 x5 p).setCell ⟨w.heap.size + 1, 0, none⟩ (.int .i64 0)).setCell ⟨w.heap.size + 1, 1, none⟩ (.int .i64 0))).drew := by
 have HF := (h.setO x0 x1 x2 x3 x4 x5 p).setE (.int .i64 0) (.int .i64 0)
 have hs : (((set7 W w.heap.size x0 x1 x2 x3 x4 x5 p).setCell ⟨w.heap.size + 1, 0, none⟩ (.int .i64 0)).setCell ⟨w.heap.size + 1, 1, none⟩ (.int .i64 0)).heap.size = W.heap.size := by
  rw [show ∀ (W : World) (k : Nat) (y : Value), (W.setCell ⟨w.heap.size + 1, k, none⟩ y).heap.size = W.heap.size from fun W k y => by simp [World.setCell]]
  rw [show ∀ (W : World) (k : Nat) (y : Value), (W.setCell ⟨w.heap.size + 1, k, none⟩ y).heap.size = W.heap.size from fun W k y => by simp [World.setCell]]
  exact set7_size _ _ _ _ _ _ _ _ _
 have hk : ∀ b, w.heap.size + 1 < b → (((set7 W w.heap.size x0 x1 x2 x3 x4 x5 p).setCell ⟨w.heap.size + 1, 0, none⟩ (.int .i64 0)).setCell ⟨w.heap.size + 1, 1, none⟩ (.int .i64 0)).heap[b]? = W.heap[b]? := fun b hb =>
  (Below.heap_setCell _ ⟨w.heap.size + 1, 1, none⟩ _ b (by show b ≠ w.heap.size + 1; omega)).trans ((Below.heap_setCell _ ⟨w.heap.size + 1, 0, none⟩ _ b (by show b ≠ w.heap.size + 1; omega)).trans (set7_other _ _ _ _ _ _ _ _ _ b (by omega)))
 generalize ((set7 W w.heap.size x0 x1 x2 x3 x4 x5 p).setCell ⟨w.heap.size + 1, 0, none⟩ (.int .i64 0)).setCell ⟨w.heap.size + 1, 1, none⟩ (.int .i64 0) = X at HF hs hk ⊢
 have HP : Pair X (fun b => w.heap.size ≤ b ∧ b < X.heap.size) o p := hp.keep (fun b hb => ⟨by omega, by rw [hs]; exact hb.2⟩) (fun b hb => hk b hb.1)
 have HFd := HF.keep ((Below.refl X.heap.size X).drew)
 have HPd : Pair X.drew (fun b => w.heap.size ≤ b ∧ b < X.drew.heap.size) o p := Pair.keep (w := X) (w' := X.drew) (fun b hb => hb) (fun b hb => rfl) HP
 exact bodyPost_ret (resCC hf h0 h1 HFd.o HFd.e) rfl ⟨HFd.bel, p, by unfold vO; rw [hz], HPd⟩
theorem OE.retBad {fn : Func} {r0 r1 : Tmp} {tmps : Array Value} {p q : Int} (h : OE w W #[.int .i64 0, .string ⟨#[]⟩, .string ⟨#[]⟩, .string ⟨#[]⟩, .string ⟨#[]⟩, .string ⟨#[]⟩, .slice none 0 0] (.int .i64 p) (.int .i64 q)) (hf : fn.results = #[.cell r0 47, .cell r1 26]) (h0 : tmps.getD r0 undef = .pointer (some ⟨w.heap.size, 0, none⟩)) (h1 : tmps.getD r1 undef = .pointer (some ⟨w.heap.size + 1, 0, none⟩)) :
 bodyPost Tryz.prog fn (OutOn w (.error (p, q))) Exit.ret ⟨tmps, []⟩ W := bodyPost_ret (resCC hf h0 h1 h.o h.e) rfl ⟨h.bel, rfl⟩
end
set_option maxHeartbeats 8000000 in
set_option maxRecDepth 100000 in
theorem oneR5 (s cur : ByteArray) (l : List Sy.Pg) (lv : Value) (w : World) (hl : Sy.PgV w l lv) (hpb : PgB l) (hn : SmS s) : Calls Tryz.prog 20 #[lv, .string cur, .string s] w (OutOn w (oneS l cur s)) := by
 have HX : Hid (OE w ((w.alloc (.cells #[.int .i64 0, .string ⟨#[]⟩, .string ⟨#[]⟩, .string ⟨#[]⟩, .string ⟨#[]⟩, .string ⟨#[]⟩, .slice none 0 0] 47)).alloc (.cells #[.int .i64 0, .int .i64 0] 26)) #[.int .i64 0, .string ⟨#[]⟩, .string ⟨#[]⟩, .string ⟨#[]⟩, .string ⟨#[]⟩, .string ⟨#[]⟩, .slice none 0 0] (.int .i64 0) (.int .i64 0)) := OE.new w
 have KR := Lib.hid (readR5 s cur l lv ((w.alloc (.cells #[.int .i64 0, .string ⟨#[]⟩, .string ⟨#[]⟩, .string ⟨#[]⟩, .string ⟨#[]⟩, .string ⟨#[]⟩, .slice none 0 0] 47)).alloc (.cells #[.int .i64 0, .int .i64 0] 26)) (hl.keep HX.out.bel) hpb hn)
 have HL := Lib.hid (hl.keep HX.out.bel)
 have HS := Lib.hid hn
 have HPB := Lib.hid hpb
 obtain ⟨lA, lc, hlv, _⟩ := hl
 subst hlv
 clear hpb hn
 unfold oneS
 cases hR : readS l cur s with
 | error y =>
  obtain ⟨x, p⟩ := y
  rw [hR] at KR
  have her : (x != 0) = true := by rw [bne_iff_ne]; exact read_code hR
  clear hR HL
  go_enter Tryz.func20, Tryz.ntmps20
  go_wp2_with fail
  refine KR.out.mono ?_
  rintro e w1 ⟨hb, he⟩
  replace he : e = _ := he
  subst he
  have HE1 : Hid (EB (w1.alloc (.cells #[.int .i64 x, .int .i64 p] 26)) w1.heap.size (.int .i64 x) (.int .i64 p)) := EB.new _ _ _
  have hal := Below.alloc (Below.refl w1.heap.size w1) (Nat.le_refl _) (.cells #[.int .i64 x, .int .i64 p] 26)
  have hlt := Nat.lt_of_lt_of_le HX.out.e.lt hb.size
  replace HX := Lib.hid ((HX.out.keep hb).keep hal)
  clear hb hal KR
  go_upto_region 2 with fail
  generalize (w1.alloc (.cells #[.int .i64 x, .int .i64 p] 26)) = W2 at HE1 HX ⊢
  generalize w1.heap.size = ge at HE1 hlt ⊢
  have n0 : ¬ w.heap.size = w.heap.size + 1 := by omega
  have n00 : ¬ w.heap.size + 1 = w.heap.size := by omega
  have n1 : ¬ ge = w.heap.size := by omega
  have n2 : ¬ w.heap.size = ge := by omega
  have n3 : ¬ ge = w.heap.size + 1 := by omega
  have n4 : ¬ w.heap.size + 1 = ge := by omega
  have c0 := HE1.out.c0
  have c1 := HE1.out.c1
  have HE1d := Lib.hid (HE1.out.keep ((Below.refl W2.heap.size W2).drew))
  have dc0 := HE1d.out.c0
  have dc1 := HE1d.out.c1
  go_upto_region 3 with fail
  have HD0 := Lib.hid (HX.out.keep ((Below.refl W2.heap.size W2).drew))
  obtain ⟨d0, d1, d2, d3, d4, d5, d6⟩ := HX.out.o.c
  obtain ⟨f0, f1, f2, f3, f4, f5, f6⟩ := HX.out.o.f
  obtain ⟨ef0, ef1⟩ := HX.out.e.frs
  have oc0 := HX.out.e.c0
  have oc1 := HX.out.e.c1
  obtain ⟨dd0, dd1, dd2, dd3, dd4, dd5, dd6⟩ := HD0.out.o.c
  obtain ⟨ff0, ff1, ff2, ff3, ff4, ff5, ff6⟩ := HD0.out.o.f
  obtain ⟨eff0, eff1⟩ := HD0.out.e.frs
  have occ0 := HD0.out.e.c0
  have occ1 := HD0.out.e.c1
  go_wp2_with fail
  apply mergeG
  case h =>
   intro hG
   go_region_with (fail)
   all_goals exact hG
  clear d0 d1 d2 d3 d4 d5 d6 f0 f1 f2 f3 f4 f5 f6 ef0 ef1 oc0 oc1 dd0 dd1 dd2 dd3 dd4 dd5 dd6 ff0 ff1 ff2 ff3 ff4 ff5 ff6 eff0 eff1 occ0 occ1 c0 c1 dc0 dc1
  go_wp2_with fail
  exact (((HX.out.setO (.int .i64 0) (.string ⟨#[]⟩) (.string ⟨#[]⟩) (.string ⟨#[]⟩) (.string ⟨#[]⟩) (.string ⟨#[]⟩) (.slice none 0 0)).setE (.int .i64 x) (.int .i64 p)).keep ((Below.refl _ _).drew)).retBad rfl rfl rfl
 | ok os =>
  rw [hR] at KR
  match os, hR with
  | [], hR =>
   show Calls _ _ _ _ (OutOn w (.error (11, (s.size : Int))))
   clear hR HL
   go_enter Tryz.func20, Tryz.ntmps20
   go_wp2_with fail
   refine KR.out.mono ?_
   rintro e w1 ⟨hb, v, xs, rfl, hit, hxs⟩
   obtain rfl : xs = [] := by
    cases xs with
    | nil => rfl
    | cons x xs => simp [fsts] at hxs
   obtain ⟨A, c, rfl⟩ := hit.lenv
   have HE1 : Hid (EB (w1.alloc (.cells #[.int .i64 0, .int .i64 0] 26)) w1.heap.size (.int .i64 0) (.int .i64 0)) := EB.new _ _ _
   have hal := Below.alloc (Below.refl w1.heap.size w1) (Nat.le_refl _) (.cells #[.int .i64 0, .int .i64 0] 26)
   have hlt := Nat.lt_of_lt_of_le HX.out.e.lt hb.size
   replace HX := Lib.hid ((HX.out.keep hb).keep hal)
   clear hb hal KR hit hxs
   go_upto_region 2 with fail
   generalize (w1.alloc (.cells #[.int .i64 0, .int .i64 0] 26)) = W2 at HE1 HX ⊢
   generalize w1.heap.size = ge at HE1 hlt ⊢
   have c0 := HE1.out.c0
   have c1 := HE1.out.c1
   go_wp2_with fail
   refine (badR 11 _ _).mono ?_
   rintro e w5 ⟨rfl, hb⟩
   replace HX := Lib.hid (HX.out.keep hb)
   clear hb c0 c1
   go_wp2_with (first | (refine storeZ rfl (.tmp 6) (.tmp 28) rfl w.heap.size rfl rfl 47 _ HX.out.o rfl ?_) | (refine EB.store (.tmp 7) (.tmp 31) rfl rfl (w.heap.size + 1) 11 (s.size : Int) _ _ rfl rfl (HX.out.setO2 _).e ?_))
   exact ((HX.out.setO2 #[.int .i64 0, .string ⟨#[]⟩, .string ⟨#[]⟩, .string ⟨#[]⟩, .string ⟨#[]⟩, .string ⟨#[]⟩, .slice none 0 0]).setE2 (.int .i64 11) (.int .i64 (s.size : Int))).retBad rfl rfl rfl
  | [y], hR =>
   obtain ⟨ob, q⟩ := y
   show Calls _ _ _ _ (OutOn w (.ok ob))
   clear hR HL
   go_enter Tryz.func20, Tryz.ntmps20
   go_wp2_with fail
   refine KR.out.mono ?_
   rintro e w1 ⟨hb, v, xs, rfl, hit, hxs⟩
   obtain ⟨p, rfl⟩ : ∃ p, xs = [(ob, p)] := by
    cases xs with
    | nil => simp [fsts] at hxs
    | cons a xs => cases xs with
     | nil =>
      simp [fsts] at hxs
      obtain ⟨a1, a2⟩ := a
      exact ⟨a2, by rw [show a1 = ob from hxs]⟩
     | cons b xs => simp [fsts] at hxs
   obtain ⟨gb, c, rfl, hc1, hc2, hbb, hblt, hcell⟩ := own_cells hit.own (by simp)
   obtain ⟨x0, x1, x2, x3, x4, x5, hz⟩ := cells7 ob p
   have HZ : Hid (Val7 ob p x0 x1 x2 x3 x4 x5) := hz
   have hcell' : ∀ j u, [x0, x1, x2, x3, x4, x5, p][j]? = some u → w1.cell? ⟨gb, j, none⟩ = some u := fun j u hj => hcell j u (by simp only [flatC, List.flatMap_cons, List.flatMap_nil, List.append_nil, hz]; exact hj)
   have hpr := hit.pairs (ob, p) (by simp)
   have HE1 : Hid (EB (w1.alloc (.cells #[.int .i64 0, .int .i64 0] 26)) w1.heap.size (.int .i64 0) (.int .i64 0)) := EB.new _ _ _
   have hal := Below.alloc (Below.refl w1.heap.size w1) (Nat.le_refl _) (.cells #[.int .i64 0, .int .i64 0] 26)
   have hlt := Nat.lt_of_lt_of_le HX.out.e.lt hb.size
   replace HX := Lib.hid ((HX.out.keep hb).keep hal)
   have k0 := (hal.cell (p := ⟨gb, 0, none⟩) hblt).trans (hcell' 0 _ rfl)
   have k1 := (hal.cell (p := ⟨gb, 1, none⟩) hblt).trans (hcell' 1 _ rfl)
   have k2 := (hal.cell (p := ⟨gb, 2, none⟩) hblt).trans (hcell' 2 _ rfl)
   have k3 := (hal.cell (p := ⟨gb, 3, none⟩) hblt).trans (hcell' 3 _ rfl)
   have k4 := (hal.cell (p := ⟨gb, 4, none⟩) hblt).trans (hcell' 4 _ rfl)
   have k5 := (hal.cell (p := ⟨gb, 5, none⟩) hblt).trans (hcell' 5 _ rfl)
   have k6 := (hal.cell (p := ⟨gb, 6, none⟩) hblt).trans (hcell' 6 _ rfl)
   have HP : Hid (Pair (w1.alloc (.cells #[.int .i64 0, .int .i64 0] 26)) (fun b => w.heap.size + 1 < b ∧ b < (w1.alloc (.cells #[.int .i64 0, .int .i64 0] 26)).heap.size) ob p) := hpr.keep (fun b hb' => ⟨by have := hb'.1; simp at this; omega, by have := hb'.2.1; have := hal.size; omega⟩) (fun b hb' => hal.block b hb'.2.1)
   have hgb : w.heap.size + 1 < gb := by simp at hbb; omega
   obtain ⟨on0, on1, on2, on3, on4, on5, on6⟩ := hpr.ones hz
   have st0 : ∀ (a : Addr) (w : World), (store a x0).run Tryz.prog w = stored Tryz.prog w a x0 .plain := fun a w => run_store Tryz.prog w a _ _ on0
   have st1 : ∀ (a : Addr) (w : World), (store a x1).run Tryz.prog w = stored Tryz.prog w a x1 .plain := fun a w => run_store Tryz.prog w a _ _ on1
   have st2 : ∀ (a : Addr) (w : World), (store a x2).run Tryz.prog w = stored Tryz.prog w a x2 .plain := fun a w => run_store Tryz.prog w a _ _ on2
   have st3 : ∀ (a : Addr) (w : World), (store a x3).run Tryz.prog w = stored Tryz.prog w a x3 .plain := fun a w => run_store Tryz.prog w a _ _ on3
   have st4 : ∀ (a : Addr) (w : World), (store a x4).run Tryz.prog w = stored Tryz.prog w a x4 .plain := fun a w => run_store Tryz.prog w a _ _ on4
   have st5 : ∀ (a : Addr) (w : World), (store a x5).run Tryz.prog w = stored Tryz.prog w a x5 .plain := fun a w => run_store Tryz.prog w a _ _ on5
   have st6 : ∀ (a : Addr) (w : World), (store a p).run Tryz.prog w = stored Tryz.prog w a p .plain := fun a w => run_store Tryz.prog w a _ _ on6
   clear hb hal KR hit hxs hcell hcell' hz hpr hbb
   go_upto_region 2 with fail
   generalize (w1.alloc (.cells #[.int .i64 0, .int .i64 0] 26)) = W2 at HE1 HX HP k0 k1 k2 k3 k4 k5 k6 ⊢
   generalize w1.heap.size = ge at HE1 hlt ⊢
   clear hblt
   have n0 : ¬ w.heap.size = w.heap.size + 1 := by omega
   have n00 : ¬ w.heap.size + 1 = w.heap.size := by omega
   have n1 : ¬ ge = w.heap.size := by omega
   have n2 : ¬ w.heap.size = ge := by omega
   have n3 : ¬ ge = w.heap.size + 1 := by omega
   have n4 : ¬ w.heap.size + 1 = ge := by omega
   have n5 : ¬ gb = w.heap.size := by omega
   have n6 : ¬ w.heap.size = gb := by omega
   have n7 : ¬ gb = w.heap.size + 1 := by omega
   have n8 : ¬ w.heap.size + 1 = gb := by omega
   have c0 := HE1.out.c0
   have c1 := HE1.out.c1
   have hdr := (Below.refl W2.heap.size W2).drew
   have HE1d := Lib.hid (HE1.out.keep hdr)
   have dc0 := HE1d.out.c0
   have dc1 := HE1d.out.c1
   have kk0 : W2.drew.cell? ⟨gb, 0, none⟩ = some x0 := k0
   have kk1 : W2.drew.cell? ⟨gb, 1, none⟩ = some x1 := k1
   have kk2 : W2.drew.cell? ⟨gb, 2, none⟩ = some x2 := k2
   have kk3 : W2.drew.cell? ⟨gb, 3, none⟩ = some x3 := k3
   have kk4 : W2.drew.cell? ⟨gb, 4, none⟩ = some x4 := k4
   have kk5 : W2.drew.cell? ⟨gb, 5, none⟩ = some x5 := k5
   have kk6 : W2.drew.cell? ⟨gb, 6, none⟩ = some p := k6
   clear hdr
   go_upto_region 11 with fail
   have HD0 := Lib.hid (HX.out.keep ((Below.refl W2.heap.size W2).drew))
   obtain ⟨d0, d1, d2, d3, d4, d5, d6⟩ := HX.out.o.c
   obtain ⟨f0, f1, f2, f3, f4, f5, f6⟩ := HX.out.o.f
   obtain ⟨ef0, ef1⟩ := HX.out.e.frs
   have oc0 := HX.out.e.c0
   have oc1 := HX.out.e.c1
   obtain ⟨dd0, dd1, dd2, dd3, dd4, dd5, dd6⟩ := HD0.out.o.c
   obtain ⟨ff0, ff1, ff2, ff3, ff4, ff5, ff6⟩ := HD0.out.o.f
   obtain ⟨eff0, eff1⟩ := HD0.out.e.frs
   have occ0 := HD0.out.e.c0
   have occ1 := HD0.out.e.c1
   have h01 : (0 : Int) < (1 : Int) := by omega
   go_wp2_with fail
   apply mergeG
   case h =>
    intro hG
    go_region_with (fail)
    all_goals exact hG
   clear d0 d1 d2 d3 d4 d5 d6 f0 f1 f2 f3 f4 f5 f6 ef0 ef1 oc0 oc1 dd0 dd1 dd2 dd3 dd4 dd5 dd6 ff0 ff1 ff2 ff3 ff4 ff5 ff6 eff0 eff1 occ0 occ1 c0 c1 dc0 dc1 k0 k1 k2 k3 k4 k5 k6 kk0 kk1 kk2 kk3 kk4 kk5 kk6
   go_wp2_with fail
   exact HX.out.finOk HP.out HZ.out rfl rfl rfl
  | y1 :: y2 :: os, hR =>
   show Calls _ _ _ _ (OutOn w (.error (12, y2.2)))
   obtain ⟨ts, hS⟩ : ∃ ts, scanS s = .ok ts := by
    unfold readS at hR
    cases h : scanS s with
    | error x => rw [h] at hR; cases hR
    | ok ts => exact ⟨ts, rfl⟩
   have hR' : readL (symL l cur) numK ts = .ok (y1 :: y2 :: os) := by
    unfold readS at hR
    rw [hS] at hR
    exact hR
   obtain ⟨hw, hsz, hks⟩ := scanS_ok hS
   obtain ⟨t, u, ts', r, hts, htk, hp, hup⟩ := second (symL l cur) numK hw hR'
   have KT := Lib.hid (fun w => tokensR s w (by have := HS.out.size; omega))
   rw [hS] at KT
   have hin := (par_in (symL l cur) numK (2 * ts.length + 2)).1 0 ts hw (by omega)
   have KO : Hid (∀ W0 w g, PsR W0 w g l (.slice lA l.length lc) cur ts → Calls Tryz.prog 37 #[.pointer (some ⟨g, 0, none⟩), .int .i64 0] w (OutER W0 w g l (.slice lA l.length lc) cur (.ok y1.1 (u :: r)))) := fun W0 w g h => by
    have := obAllR5 (2 * ts.length + 2) W0 w g l (.slice lA l.length lc) cur 0 ts h hw hks (scan_num hS) HPB.out (Int.le_refl _) (by omega) hin
    rw [hp] at this
    exact this
   have HTN := Lib.hid (HS.out.toks ts hS)
   obtain ⟨uk, up, uq, ut, ud⟩ := u
   obtain ⟨y2o, y2p⟩ := y2
   obtain rfl : up = y2p := hup
   show Calls _ _ _ _ (OutOn w (.error (12, up)))
   clear hR hR' hS hw hsz hks hts htk hp hin
   go_enter Tryz.func20, Tryz.ntmps20
   go_wp2_with fail
   refine KR.out.mono ?_
   rintro e w1 ⟨hb, v, xs, rfl, hit, hxs⟩
   obtain ⟨A, cA, rfl⟩ := hit.lenv
   obtain ⟨n, hn⟩ : ∃ n, xs.length = n := ⟨_, rfl⟩
   have hn2 : 2 ≤ n := by
    have := congrArg List.length hxs
    rw [fsts_len, hn] at this
    simp at this
    omega
   rw [hn]
   have e1 : ((n : Int) == 0) = false := by rw [beq_eq_false_iff_ne]; omega
   have e2 : (1 : Int) < (n : Int) := by omega
   have HE1 : Hid (EB (w1.alloc (.cells #[.int .i64 0, .int .i64 0] 26)) w1.heap.size (.int .i64 0) (.int .i64 0)) := EB.new _ _ _
   have hal := Below.alloc (Below.refl w1.heap.size w1) (Nat.le_refl _) (.cells #[.int .i64 0, .int .i64 0] 26)
   have hlt := Nat.lt_of_lt_of_le HX.out.e.lt hb.size
   replace HX := Lib.hid ((HX.out.keep hb).keep hal)
   replace HL := Lib.hid ((HL.out.keep hb).keep hal)
   clear hb hal KR hit hxs hn
   go_upto_region 2 with fail
   generalize (w1.alloc (.cells #[.int .i64 0, .int .i64 0] 26)) = W2 at HE1 HX HL ⊢
   generalize w1.heap.size = ge at HE1 hlt ⊢
   have c0 := HE1.out.c0
   have c1 := HE1.out.c1
   go_wp2_with fail
   refine (KT.out _).mono ?_
   rintro e w3 ⟨hb, tv, rfl, htv⟩
   have htv' := htv
   obtain ⟨tA, tc, htv2, _⟩ := htv'
   subst htv2
   have hal2 := al2 w3 (.cells #[.int .i64 0, .int .i64 0] 26) (.cells #[.slice lA l.length lc, .string cur, .slice tA ts.length tc, .int .i64 0] 79)
   have hgg := Nat.lt_of_lt_of_le HX.out.e.lt hb.size
   replace HX := Lib.hid ((HX.out.keep hb).keep hal2)
   have HP4 : Hid (PsR w3 ((w3.alloc (.cells #[.int .i64 0, .int .i64 0] 26)).alloc (.cells #[.slice lA l.length lc, .string cur, .slice tA ts.length tc, .int .i64 0] 79)) (w3.heap.size + 1) l (.slice lA l.length lc) cur ts) := ⟨_, ts, 0, by
    have := heap_alloc_new (w3.alloc (.cells #[.int .i64 0, .int .i64 0] 26)) (.cells #[.slice lA l.length lc, .string cur, .slice tA ts.length tc, .int .i64 0] 79)
    have h2 : (w3.alloc (.cells #[.int .i64 0, .int .i64 0] 26)).heap.size = w3.heap.size + 1 := by simp
    rw [h2] at this
    exact this, Nat.le_succ _, hal2, HL.out.keep hb, htv.less (Nat.zero_le _), rfl, by have := HTN.out; omega⟩
   clear hb htv hal2 c0 c1 HE1 hlt KT HL HTN
   go_upto_region 9 with fail
   generalize ((w3.alloc (.cells #[.int .i64 0, .int .i64 0] 26)).alloc (.cells #[.slice lA l.length lc, .string cur, .slice tA ts.length tc, .int .i64 0] 79)) = W4 at HX HP4 ⊢
   obtain ⟨g, hg⟩ : ∃ g, g = w3.heap.size + 1 := ⟨_, rfl⟩
   rw [← hg] at HP4 ⊢
   have hg2 : w.heap.size + 1 < g := by omega
   clear hg hgg
   go_wp2_with fail
   refine (KO.out _ _ _ HP4.out).mono ?_
   rintro e w5 ⟨p, rfl, hp, hps, hb⟩
   replace HX := Lib.hid (HX.out.but hb hg2)
   have HP5 := Lib.hid hps
   clear hp hps hb HP4 KO
   have n0 : ¬ w.heap.size = w.heap.size + 1 := by omega
   have n00 : ¬ w.heap.size + 1 = w.heap.size := by omega
   obtain ⟨b, o, nn, c, j, HC0⟩ := HP5.out.open
   have c2 := HC0.c2
   have c3 := HC0.c3
   have t1 := HC0.t1
   have hj := HC0.hj
   have hnn := HC0.hn
   have hj0 : (0 : Int) ≤ (j : Int) := by omega
   have hj1 : (j : Int) < (nn : Int) := by omega
   have HC1 := HC0.more ((Below.refl w5.heap.size w5).drew) HP5.out.lt HP5.out.bel
   have dc2 := HC1.c2
   have dc3 := HC1.c3
   have dt1 := HC1.t1
   clear HC0 HC1
   have HXd := Lib.hid (HX.out.keep ((Below.refl w5.heap.size w5).drew))
   go_wp2_with fail
   go_region_with (go_at_call 31; refine (badR 12 up _).mono ?_; rintro e w7 ⟨rfl, hb⟩; have HX7 := Lib.hid (HXd.out.keep hb); obtain ⟨d0, d1, d2, d3, d4, d5, d6⟩ := HX7.out.o.c; obtain ⟨f0, f1, f2, f3, f4, f5, f6⟩ := HX7.out.o.f; obtain ⟨ef0, ef1⟩ := HX7.out.e.frs; have oc0 := HX7.out.e.c0; have oc1 := HX7.out.e.c1; clear hb)
   all_goals
    clear d0 d1 d2 d3 d4 d5 d6 f0 f1 f2 f3 f4 f5 f6 ef0 ef1 oc0 oc1 c2 c3 t1 dc2 dc3 dt1
    go_wp2_with fail
    exact ((HX7.out.setO (.int .i64 0) (.string ⟨#[]⟩) (.string ⟨#[]⟩) (.string ⟨#[]⟩) (.string ⟨#[]⟩) (.string ⟨#[]⟩) (.slice none 0 0)).setE (.int .i64 12) (.int .i64 up)).retBad rfl rfl rfl
namespace Sy
theorem run_appendP (w : World) (ty : TypeId) (g n c m c' : Nat) (sp : Option Addr) (cur cs : List Value) (hg : w.heap[g]? = some (.cells cur.toArray 76 (0, 0))) (hroom : n + m ≤ c) (hcl : cs.length = m * 2)
 (hsrc : 0 < m → ∃ ad, sp = some ad ∧ ∀ j v, cs[j]? = some v → w.cell? (Addr.add ad j) = some v) (hfit : n * 2 + cs.length ≤ cur.length) (h1 : ∀ v ∈ cs, v.oneCell' = true) :
 (Builtin.append_ #[40, 40] ty #[.slice (some ⟨g, 0, none⟩) n c, .slice sp m c']).run Tryz.prog w = .ok (.slice (some ⟨g, 0, none⟩) (n + m) c) (w.setRow g (cur.take (n * 2) ++ cs ++ cur.drop (n * 2 + cs.length)).toArray) := by
 obtain ⟨i, h2, h3, h4, h5⟩ := infoP
 by_cases h0 : 0 < m
 · obtain ⟨ad, rfl, hc⟩ := hsrc h0
   have := run_append_room (P := Tryz.prog) w 40 ty 76 i Tryz.underlying40 h2 g n c cur.toArray hg ad m c' cs (by rw [h4]; exact hcl) hc h1 hroom (by rw [h4]; simpa using hfit)
   rw [h4] at this
   simpa using this
 · have hm0 : m = 0 := by omega
   subst hm0
   have e : cs = [] := List.eq_nil_of_length_eq_zero (by simpa using hcl)
   subst e
   cases sp with
   | none =>
    have hst := run_storeCells_at Tryz.prog g (n * 2) 76 [] 0 cur.toArray w hg (by simpa using hfit) (by simp)
    have hroom' : n ≤ c := by omega
    simp only [Nat.add_zero] at hst
    simp [Builtin.append_, run_underlying Tryz.underlying40, sizeOf, typeInfo, h2, Builtin.lenOf, hroom', Builtin.firstCells, Addr.add_lit, storeCells]
    rw [setRow_self w g cur.toArray 76 (0, 0) hg]
   | some ad =>
    have := run_append_room (P := Tryz.prog) w 40 ty 76 i Tryz.underlying40 h2 g n c cur.toArray hg ad 0 c' [] (by simp) (by simp) (by simp) hroom (by rw [h4]; simpa using hfit)
    rw [h4] at this
    simpa using this
theorem stepAppP {ops : Array Oper} {o : Oper} {a : Act} {w : World} {K : Act → World → Prop} {Q : Exit → Act → World → Prop} {E : Prop} (hgd : o.guard = none) (d s : Operand)
 (ho : o.op = .call { callee := .builtin .append, args := #[d, s], argTypes := #[40, 40] }) (g n c m c' : Nat) (sp : Option Addr) (hd : a.eval d = .slice (some ⟨g, 0, none⟩) n c) (hs : a.eval s = .slice sp m c') (hroom : n + m ≤ c)
 (cur cs : List Value) (hg : w.heap[g]? = some (.cells cur.toArray 76 (0, 0))) (hcl : cs.length = m * 2)
 (hsrc : 0 < m → ∃ ad, sp = some ad ∧ ∀ j v, cs[j]? = some v → w.cell? (Addr.add ad j) = some v) (hfit : n * 2 + cs.length ≤ cur.length) (h1 : ∀ v ∈ cs, v.oneCell' = true)
 (h : ∀ w', w'.heap[g]? = some (.cells (cur.take (n * 2) ++ cs ++ cur.drop (n * 2 + cs.length)).toArray 76 (0, 0)) → (∀ B w0, Below B w0 w → B ≤ g → Below B w0 w') → (∀ k, k ≠ g → w'.heap[k]? = w.heap[k]?) → K (a.put o.dst (.slice (some ⟨g, 0, none⟩) (n + m) c)) w') :
 if Region.wanted o (yielded ops a.tmps) = true then Oper.wp Tryz.prog o a w K Q else E := by
 have hw : Region.wanted o (yielded ops a.tmps) = true := by simp [Region.wanted, hgd]
 rw [if_pos hw]
 have hrun := run_appendP w o.type g n c m c' sp cur cs hg hroom hcl hsrc hfit h1
 unfold Oper.wp
 simp [execOp, ho, resolve, invoke, builtin, hd, hs, hrun, Result.andThen]
 exact h _ (by simpa using setRow_heap w g _ _ 76 _ hg) (fun B w0 hb hB => below_setRow hb hB _) (fun k hk => setRow_other w g k _ hk)
end Sy
namespace Sy
def InnW (X wr : World) (q : List Sy) (n : ByteArray) (k : Nat) (R : Option Sy) : Prop := impM (q.drop k) n = R ∧ Below X.heap.size X wr
theorem madeP (k : Nat) (x : Int) (hx : x = (k : Int)) (hk : k ≤ 100000) : ∃ cur : List Value, cur.length = k * 2 ∧ ∀ w : World,
 (Instr.makeSlice 40 (.int .i64 0) (.int .i64 x)).run Tryz.prog w = .ok (.slice (some ⟨w.heap.size, 0, none⟩) 0 k) (w.alloc (.cells cur.toArray 76)) := by
 subst hx
 obtain ⟨i, h1, h2, h3, h4⟩ := infoP
 refine ⟨(madeCells (Value.agg #[.string ⟨#[]⟩, .slice none 0 0]).cells (k * 2)).toList, by rw [Array.length_toList, size_madeCells], fun w => ?_⟩
 have := run_make (P := Tryz.prog) w 40 76 i _ Tryz.underlying40 h1 h2 .i64 .i64 0 k (Int.le_refl _) (by omega) (by rw [h4]; omega) (by omega)
 rw [h3] at this
 simpa using this
theorem bDrewP {k : Nat} {w W : World} (h : Below k w W) : Below k w W.drew := h.trans ⟨rfl, rfl, rfl, Nat.le_refl _, fun _ _ => rfl⟩
theorem bAlP (w : World) (x : Obj) : Below w.heap.size w (w.alloc x) := Below.alloc (Below.refl _ _) (Nat.le_refl _) _
theorem bAlP2 (w : World) (x y : Obj) : Below w.heap.size w ((w.alloc x).alloc y) := chainY (bAlP w x) (bAlP (w.alloc x) y) (Nat.le_refl _)
theorem rowOld (w : World) (x y : Obj) : ((w.alloc x).alloc y).drew.heap[w.heap.size]? = some x := ((bAlP (w.alloc x) y).block w.heap.size (blk_ltY (heap_alloc_new w x))).trans (heap_alloc_new w x)
theorem rowNew (w : World) (x y : Obj) : ((w.alloc x).alloc y).drew.heap[w.heap.size + 1]? = some y := by
 have := heap_alloc_new (w.alloc x) y
 rwa [show (w.alloc x).heap.size = w.heap.size + 1 from by simp] at this
theorem srcP {W : World} {g : Nat} {x y : Value} (h : W.heap[g]? = some (.cells #[x, y] 76 (0, 0))) (j : Nat) (v : Value) (hj : [x, y][j]? = some v) : W.cell? (Addr.add ⟨g, 0, none⟩ j) = some v := by
 have e : Addr.add ⟨g, 0, none⟩ j = ⟨g, j, none⟩ := by simp [Addr.add_lit]
 rw [e, cell_of_row _ _ _ _ _ _ h]
 simpa using hj
theorem oneP (n : ByteArray) (A : Option Addr) (M c : Nat) : ∀ v ∈ [Value.string n, .slice A M c], v.oneCell' = true := by
 intro v hv
 simp only [List.mem_cons, List.not_mem_nil, or_false] at hv
 rcases hv with rfl | rfl <;> rfl
theorem joinLen {cur cs : List Value} {L : Nat} (h1 : cur.length = (L + 1) * 2) (h2 : cs.length = L * 2) : (cur.take (0 * 2) ++ cs ++ cur.drop (0 * 2 + cs.length)).length = (L + 1) * 2 := by
 simp only [List.length_append, List.length_take, List.length_drop]
 omega
theorem defDone {w w4 : World} {l : List Pg} {q : List Sy} {n : ByteArray} {u : Value} {cs cur : List Value} {g L : Nat} (hL : l.length = L) (hcl : cur.length = (L + 1) * 2) (hc1 : cs.length = L * 2)
 (hc4 : ∀ i (hi : i < l.length), cs[i * 2]? = some (.string l[i].1) ∧ ∃ u, cs[i * 2 + 1]? = some u ∧ SyV w l[i].2 u) (hu : SyV w q u) (hl : L ≤ 1000) (hb : Below w.heap.size w w4)
 (hg : w4.heap[g]? = some (.cells ((cur.take (0 * 2) ++ cs ++ cur.drop (0 * 2 + cs.length)).take (L * 2) ++ [.string n, u] ++ (cur.take (0 * 2) ++ cs ++ cur.drop (0 * 2 + cs.length)).drop (L * 2 + [Value.string n, u].length)).toArray 76 (0, 0))) :
 PgV w4 (l ++ [(n, q)]) (.slice (some ⟨g, 0, none⟩) (L + 1) (L + 1)) := by
 subst hL
 have e1 : cur.take (0 * 2) ++ cs ++ cur.drop (0 * 2 + cs.length) = cs ++ cur.drop cs.length := by simp
 rw [e1, ← hc1, List.take_left, List.drop_eq_nil_of_le (by rw [List.length_append, List.length_drop]; simp only [List.length_cons, List.length_nil]; omega), List.append_nil] at hg
 exact PgV.snoc (l := l) (q := q) (c := l.length + 1) hg hc1 (fun i hi => by
  obtain ⟨h1, u, h2, h3⟩ := hc4 i hi
  exact ⟨h1, u, h2, h3.keep hb⟩) (hu.keep hb) (Nat.le_refl _) (by unfold maxLen; omega)
set_option maxHeartbeats 16000000 in
set_option maxRecDepth 100000 in
theorem defineRY (l : List Pg) (v : Value) (n : ByteArray) (q : List Sy) (u : Value) (w : World) (hv : PgV w l v) (hu : SyV w q u) (hl : l.length ≤ 1000) (hi : ∀ p ∈ l, p.2.length ≤ 1000) (hq : q.length ≤ 1000) :
 Calls Tryz.prog 36 #[v, .agg #[.string n, u]] w (RetD w (defineM l (n, q))) := by
 have CF : Hid (∀ X, Below w.heap.size w X → Calls Tryz.prog 61 #[v, .string n] X (RetF X (findM l n))) := fun X hX => findRY l v n X (hv.keep hX) (by omega)
 have CH : Hid (∀ X s1 s2, Below w.heap.size w X → Calls Tryz.prog 63 #[v, .agg #[.string s1, .string s2]] X (RetY X (.bool (homeM l (s1, s2))))) := fun X s1 s2 hX => homeRY l v s1 s2 X (hv.keep hX) (by omega) (fun p hp => by have := hi p hp; omega)
 clear hi
 obtain ⟨r, hr⟩ : ∃ r, chkPkg l (n, q) = r := ⟨_, rfl⟩
 have hd : defineM l (n, q) = if r = 0 then (l ++ [(n, q)], 0) else ([], r) := by unfold defineM; rw [hr]
 rw [hd]
 clear hd
 unfold chkPkg at hr
 replace hr : (if pkgOk n = true then (if (findM l n).isSome = true then 4 else if 200 < q.length then 2 else chkL l [] q) else 3) = r := hr
 have HV := Lib.hid hv
 have HU := Lib.hid hu
 obtain ⟨A, c, rfl, hlc, hcm, hA⟩ := hv
 obtain ⟨A', c', rfl, hqc, hqm, hA'⟩ := hu
 obtain ⟨cs, hc1, hc2, hc3, hc4⟩ := HV.out.cells
 have HC2 := Lib.hid hc2
 have HC3 := Lib.hid hc3
 have HC4 := Lib.hid hc4
 have HAq := Lib.hid hA'
 clear hA hA' hc2 hc3 hc4 HV
 obtain ⟨L, hL⟩ : ∃ L, l.length = L := ⟨_, rfl⟩
 obtain ⟨M, hM⟩ : ∃ M, q.length = M := ⟨_, rfl⟩
 rw [hL] at hl hlc hc1 CF CH HC2 ⊢
 rw [hM] at hq hqc hr HU ⊢
 have HL := Lib.hid hL
 have HM := Lib.hid hM
 have HC1 := Lib.hid hc1
 clear hL hM hc1
 have T := PB.new w (.string n) (.slice A' M c')
 have hB0 := Below.alloc (Below.refl w.heap.size w) (Nat.le_refl _) (.cells #[.string n, .slice A' M c'] 76)
 cases hs : pkgOk n with
 | false =>
  rw [hs, if_neg (by simp)] at hr
  subst hr
  rw [if_neg (by omega)]
  go_enter Tryz.func36, Tryz.ntmps36
  go_wp2_with fail
  generalize w.alloc (.cells #[.string n, .slice A' M c'] 76) = W0 at T hB0 ⊢
  have m0 := T.c0
  have m1 := T.c1
  go_wp2_with fail
  refine (validPR n _).mono ?_
  rintro e w1 ⟨rfl, hb⟩
  rw [hs]
  have HT := Lib.hid (PB.keep T hb)
  have HB := Lib.hid (chainY hB0 hb (Nat.le_refl _))
  clear hb T hB0 m0 m1
  go_wp2_with fail
  exact retTT rfl rfl rfl ⟨_, rfl, PgV.nil _, HB.out⟩
 | true =>
  rw [hs, if_pos rfl] at hr
  cases hf : findM l n with
  | some p =>
   rw [hf] at hr CF
   replace hr : (4 : Int) = r := hr
   subst hr
   rw [if_neg (by omega)]
   go_enter Tryz.func36, Tryz.ntmps36
   go_wp2_with fail
   generalize w.alloc (.cells #[.string n, .slice A' M c'] 76) = W0 at T hB0 ⊢
   have m0 := T.c0
   have m1 := T.c1
   go_wp2_with fail
   refine (validPR n _).mono ?_
   rintro e w1 ⟨rfl, hb⟩
   rw [hs]
   have HT := Lib.hid (PB.keep T hb)
   have HB := Lib.hid (chainY hB0 hb (Nat.le_refl _))
   clear hb T hB0 m0 m1
   have m0 := HT.out.c0
   have m1 := HT.out.c1
   go_wp2_with fail
   refine (CF.out _ HB.out).mono ?_
   rintro e w2 ⟨u2, rfl, hu2, hb⟩
   obtain ⟨A2, c2, rfl, _, _, _⟩ := hu2
   replace HB := Lib.hid (chainY HB.out hb (Nat.le_refl _))
   clear hb m0 m1
   go_wp2_with fail
   exact retTT rfl rfl rfl ⟨_, rfl, PgV.nil _, chainY HB.out (Below.alloc (Below.refl _ _) (Nat.le_refl _) _) (Nat.le_refl _)⟩
  | none =>
   rw [hf] at hr CF
   replace hr : (if 200 < M then 2 else chkL l [] q) = r := hr
   by_cases h2 : 200 < M
   · rw [if_pos h2] at hr
     subst hr
     rw [if_neg (by omega)]
     have h3 : (200 : Int) < (M : Int) := by omega
     go_enter Tryz.func36, Tryz.ntmps36
     go_wp2_with fail
     generalize w.alloc (.cells #[.string n, .slice A' M c'] 76) = W0 at T hB0 ⊢
     have m0 := T.c0
     have m1 := T.c1
     go_wp2_with fail
     refine (validPR n _).mono ?_
     rintro e w1 ⟨rfl, hb⟩
     rw [hs]
     have HT := Lib.hid (PB.keep T hb)
     have HB := Lib.hid (chainY hB0 hb (Nat.le_refl _))
     clear hb T hB0 m0 m1
     have m0 := HT.out.c0
     have m1 := HT.out.c1
     go_wp2_with fail
     refine (CF.out _ HB.out).mono ?_
     rintro e w2 ⟨rfl, hb⟩
     go_upto_region 4 with fail
     have HT2 : Hid (PB (w2.alloc (.cells #[.string ⟨#[]⟩, .slice none 0 0] 76)) w.heap.size (.string n) (.slice A' M c')) := PB.keep (PB.keep HT.out hb) (Below.alloc (Below.refl _ _) (Nat.le_refl _) _)
     have HB2 : Hid (Below w.heap.size w (w2.alloc (.cells #[.string ⟨#[]⟩, .slice none 0 0] 76))) := chainY (chainY HB.out hb (Nat.le_refl _)) (Below.alloc (Below.refl _ _) (Nat.le_refl _) _) (Nat.le_refl _)
     clear hb m0 m1 HT HB
     generalize w2.alloc (.cells #[.string ⟨#[]⟩, .slice none 0 0] 76) = X2 at HT2 HB2 ⊢
     have m0 := HT2.out.c0
     have m1 := HT2.out.c1
     go_wp2_with fail
     exact retTT rfl rfl rfl ⟨_, rfl, PgV.nil _, HB2.out⟩
   · rw [if_neg h2] at hr
     have h3 : ¬ (200 : Int) < (M : Int) := by omega
     obtain ⟨out, hout⟩ : ∃ o : List Pg × Int, (if r = 0 then (l ++ [(n, q)], 0) else ([], r)) = o := ⟨_, rfl⟩
     rw [hout]
     have HOUT := Lib.hid hout
     clear hout
     have H0 : Hid (chkL l (q.take 0) (q.drop 0) = r) := hr
     clear hr
     go_enter Tryz.func36, Tryz.ntmps36
     go_wp2_with fail
     generalize w.alloc (.cells #[.string n, .slice A' M c'] 76) = W0 at T hB0 ⊢
     have m0 := T.c0
     have m1 := T.c1
     go_wp2_with fail
     refine (validPR n _).mono ?_
     rintro e w1 ⟨rfl, hb⟩
     rw [hs]
     have HT := Lib.hid (PB.keep T hb)
     have HB := Lib.hid (chainY hB0 hb (Nat.le_refl _))
     clear hb T hB0 m0 m1
     have m0 := HT.out.c0
     have m1 := HT.out.c1
     go_wp2_with fail
     refine (CF.out _ HB.out).mono ?_
     rintro e w2 ⟨rfl, hb⟩
     go_upto_region 4 with fail
     have HT2 : Hid (PB (w2.alloc (.cells #[.string ⟨#[]⟩, .slice none 0 0] 76)) w.heap.size (.string n) (.slice A' M c')) := PB.keep (PB.keep HT.out hb) (Below.alloc (Below.refl _ _) (Nat.le_refl _) _)
     have HB2 : Hid (Below w.heap.size w (w2.alloc (.cells #[.string ⟨#[]⟩, .slice none 0 0] 76))) := chainY (chainY HB.out hb (Nat.le_refl _)) (Below.alloc (Below.refl _ _) (Nat.le_refl _) _) (Nat.le_refl _)
     clear hb m0 m1 HT HB
     generalize w2.alloc (.cells #[.string ⟨#[]⟩, .slice none 0 0] 76) = X2 at HT2 HB2 ⊢
     have m0 := HT2.out.c0
     have m1 := HT2.out.c1
     have HR0 : Hid (ChkW w X2 w.heap.size n (.slice A' M c') l q 0 r) := ⟨H0.out, HB2.out, HT2.out⟩
     clear H0 HT2
     go_wp2_with fail
     clear m0 m1
     go_loopw [8] (fun v wr => ∃ (i : Nat), i ≤ M ∧ v = .int .i64 i ∧ Hid (ChkW w wr w.heap.size n (.slice A' M c') l q i r)) (fun v _ => M - (intOf v).toNat)
     case atStart => exact ⟨0, Nat.zero_le _, rfl, HR0⟩
     case round =>
      obtain ⟨i, hi, rfl, hE⟩ := hrel
      obtain ⟨wo, rfl⟩ : ∃ wo : World, wo = wr := ⟨_, rfl⟩
      obtain ⟨hF, hB, hG⟩ := hE.out
      clear hE HR0 HB2
      have HF := Lib.hid hF
      have HG := Lib.hid hG
      have HBo := Lib.hid hB
      have m1 := hG.c1
      clear hF hG hB
      by_cases hiL : i < M
      · have hil : i < q.length := by rw [HM.out]; exact hiL
        obtain ⟨b, o, rfl, hbw, hcell⟩ := HAq.out (by omega)
        have HCE := Lib.hid hcell
        obtain ⟨k0, k1⟩ := hcell i hil
        have step := chkL_at (l := l) hil
        rw [HF.out] at step
        have l0 := (HBo.out.cell (p := ⟨b, o + i * 2, none⟩) hbw).trans k0
        have l1 := (HBo.out.cell (p := ⟨b, o + i * 2 + 1, none⟩) hbw).trans k1
        have hchk : chkImp l (q.take i) q[i] = if symOk q[i].1 q[i].2 = true then (if homeM l (q[i].1, q[i].2) = true then (if (impM (q.take i) q[i].2).isSome = true then 4 else 0) else 13) else 3 := rfl
        clear k0 k1 hcell HF
        rw [hchk] at step
        clear hchk
        generalize q[i].1 = q1 at l0 step
        generalize q[i].2 = q2 at l1 step
        have STP := Lib.hid step
        clear step
        go_upto_region 12 with fail
        have HN : Hid (SB (wo.alloc (.cells #[.string q1, .string q2] 45)) wo.heap.size (.string q1) (.string q2)) := SB.new wo _ _
        have HT3 : Hid (PB (wo.alloc (.cells #[.string q1, .string q2] 45)) w.heap.size (.string n) (.slice (some ⟨b, o, none⟩) M c')) := PB.keep HG.out (Below.alloc (Below.refl _ _) (Nat.le_refl _) _)
        have HB3 : Hid (Below w.heap.size w (wo.alloc (.cells #[.string q1, .string q2] 45))) := chainY HBo.out (Below.alloc (Below.refl _ _) (Nat.le_refl _) _) (Nat.le_refl _)
        clear l0 l1 HG m1
        generalize wo.alloc (.cells #[.string q1, .string q2] 45) = X3 at HN HT3 HB3 ⊢
        have j0 := HN.out.c0
        have j1 := HN.out.c1
        go_wp2_with fail
        refine (validSR q1 q2 _).mono ?_
        rintro e w4 ⟨rfl, hb⟩
        have HN4 := Lib.hid (SB.keep HN.out hb)
        have HT4 := Lib.hid (PB.keep HT3.out hb)
        have HB4 := Lib.hid (chainY HB3.out hb (Nat.le_refl _))
        clear hb j0 j1 HN HT3 HB3
        cases hsy : symOk q1 q2 with
        | false =>
         have hr : r = 3 := by have := STP.out; rw [hsy] at this; simpa using this
         subst hr
         have hout := HOUT.out
         rw [if_neg (by omega)] at hout
         subst hout
         go_wp2_with fail
         exact retTT rfl rfl rfl ⟨_, rfl, PgV.nil _, HB4.out⟩
        | true =>
         have stp2 := STP.out
         rw [hsy, if_pos rfl] at stp2
         have j0 := HN4.out.c0
         have j1 := HN4.out.c1
         go_wp2_with fail
         refine (CH.out _ q1 q2 HB4.out).mono ?_
         rintro e w5 ⟨rfl, hb⟩
         have HN5 := Lib.hid (SB.keep HN4.out hb)
         have HT5 := Lib.hid (PB.keep HT4.out hb)
         have HB5 := Lib.hid (chainY HB4.out hb (Nat.le_refl _))
         clear hb j0 j1 HN4 HT4 HB4 STP
         cases hh : homeM l (q1, q2) with
         | false =>
          have hr : r = 13 := by rw [hh] at stp2; simpa using stp2
          subst hr
          have hout := HOUT.out
          rw [if_neg (by omega)] at hout
          subst hout
          clear stp2
          go_wp2_with fail
          exact retTT rfl rfl rfl ⟨_, rfl, PgV.nil _, HB5.out⟩
         | true =>
          rw [hh, if_pos rfl] at stp2
          obtain ⟨R, hR⟩ : ∃ R, impM (q.take i) q2 = R := ⟨_, rfl⟩
          rw [hR] at stp2
          have STP := Lib.hid stp2
          have HI0 : Hid (InnW w5 w5 (q.take i) q2 0 R) := ⟨by rw [List.drop_zero]; exact hR, Below.refl _ _⟩
          clear stp2 hR
          go_wp2_with fail
          go_loopw [10] (fun v wr => ∃ (k : Nat), k ≤ i ∧ v = .int .i64 k ∧ Hid (InnW w5 wr (q.take i) q2 k R)) (fun v _ => i - (intOf v).toNat)
          case atStart => exact ⟨0, Nat.zero_le _, rfl, HI0⟩
          case round =>
           obtain ⟨k, hk, rfl, hE⟩ := hrel
           obtain ⟨wi, rfl⟩ : ∃ wi : World, wi = wr := ⟨_, rfl⟩
           obtain ⟨hF, hBi⟩ := hE.out
           clear hE HI0
           have HF := Lib.hid hF
           have HBi := Lib.hid hBi
           have HB6 := Lib.hid (chainY HB5.out hBi (Nat.le_refl _))
           clear hF hBi
           by_cases hki : k < i
           · have hkl : k < (q.take i).length := by rw [List.length_take]; omega
             have hkq : k < q.length := by omega
             have step := impM_drop hkl q2
             rw [HF.out] at step
             have eqk : (q.take i)[k] = q[k] := List.getElem_take
             rw [eqk] at step
             obtain ⟨k0, k1⟩ := HCE.out k hkq
             have hBd : Below w.heap.size w wi := HB6.out
             have m1 := (PB.keep HT5.out HBi.out).c1
             have j1 := (SB.keep HN5.out HBi.out).c1
             have l1 := (hBd.cell (p := ⟨b, o + k * 2 + 1, none⟩) hbw).trans k1
             clear k0 k1 hBd eqk
             have hk1 : (0 : Int) ≤ (k : Int) := by omega
             have hk2 : (k : Int) < (M : Int) := by omega
             cases hqq : (q[k].2.toList == q2.toList) with
             | true =>
              rw [hqq, if_pos rfl] at step
              have hr : r = 4 := by have := STP.out; rw [step] at this; exact this
              subst hr
              have hout := HOUT.out
              rw [if_neg (by omega)] at hout
              subst hout
              clear step HF
              generalize q[k].2 = qk at l1 hqq
              go_wp2_with fail
              go_quiet (fail)
              go_wp2_with fail
              exact retTT rfl rfl rfl ⟨_, rfl, PgV.nil _, HB6.out.trans (⟨rfl, rfl, rfl, Nat.le_refl _, fun _ _ => rfl⟩ : Below w.heap.size wi (wi.drewN nq))⟩
             | false =>
              rw [hqq, if_neg (by simp)] at step
              replace step := Lib.hid step
              generalize q[k].2 = qk at l1 hqq
              go_wp2_with fail
              go_quiet (fail)
              go_wp2_with fail
              go_roundw
              case rel => exact ⟨k + 1, by omega, by go_num, ⟨step.out.symm, HBi.out.trans (⟨rfl, rfl, rfl, Nat.le_refl _, fun _ _ => rfl⟩ : Below w5.heap.size wi (wi.drewN nq))⟩⟩
              case measure => simp [intOf]; omega
           · have hkE : k = i := by omega
             have hr : R = none := by
              rw [← HF.out, List.drop_eq_nil_of_le (by rw [List.length_take]; omega)]
              rfl
             have stp2 := STP.out
             rw [hr] at stp2
             replace stp2 : r = chkL l (q.take (i + 1)) (q.drop (i + 1)) := stp2
             have STP2 := Lib.hid stp2
             clear stp2 hr HF STP
             go_wp2_with fail
             go_roundw
             case rel => exact ⟨i + 1, by omega, by go_num, ⟨STP2.out.symm, HB6.out, PB.keep HT5.out HBi.out⟩⟩
             case measure => simp [intOf]; omega
      · have hiE : i = M := by omega
        have hr : r = 0 := by
         rw [← HF.out, List.drop_eq_nil_of_le (by rw [HM.out]; omega)]
         rfl
        subst hr
        have hout := HOUT.out
        rw [if_pos rfl] at hout
        subst hout
        clear HF
        obtain ⟨cur, hcl, hmk⟩ := madeP (L + 1) ((L : Int) + 1) (by omega) (by omega)
        have HCL := Lib.hid hcl
        clear hcl
        have hl0 : (0 : Int) ≤ (L : Int) := by omega
        have hl1 : (L : Int) ≤ 1000 := by omega
        have m0 := HG.out.c0
        have hw1 : IntKind.i64.wrap ((L : Int) + 1) = (L : Int) + 1 := IntWalk.i64_in _ (by omega)
        go_upto_region 21 with fail
        clear hiL
        go_region_held3 (fun W' => W'.cell? ⟨w.heap.size, 0, none⟩ = some (.string n) ∧ W'.cell? ⟨w.heap.size, 1, none⟩ = some (.slice A' M c')) (go_keep) ((first
         | ((with_reducible refine stepAppP ?_ (.tmp 63) (.tmp 64) ?_ wo.heap.size 0 (L + 1) L c A ?_ ?_ ?_ cur cs ?_ ?_ ?_ ?_ ?_ ?_); rfl; rfl; rfl; rfl; (omega); (first | exact heap_alloc_new wo _ | exact rowOld wo _ _ | exact rowNew wo _ _); (exact HC1.out); (intro h0; obtain ⟨ad, h5, h6, h7⟩ := HC2.out h0; refine ⟨ad, h5, fun j v hj => ?_⟩; refine Eq.trans (Below.cell (chainY HBo.out ?_ (Nat.le_refl _)) (p := ad.add j) ?_) (h7 j v hj); (first | exact bDrewP (bAlP _ _) | exact bDrewP (bAlP2 _ _ _) | exact bAlP _ _ | exact bAlP2 _ _ _); (rw [add_blockY]; exact h6)); (have h1 := HCL.out; have h2 := HC1.out; omega); (exact HC3.out); (intro w3 hg3 hb3 ho3; have HX3 := Lib.hid (hb3 wo.heap.size wo (by first | exact bDrewP (bAlP _ _) | exact bDrewP (bAlP2 _ _ _) | exact bAlP _ _ | exact bAlP2 _ _ _) (by omega)); have HT3 := Lib.hid (PB.keep HG.out HX3.out); have HB3 := Lib.hid (chainY HBo.out HX3.out (Nat.le_refl _)); have HG3 := Lib.hid hg3; have HO3 := Lib.hid ho3; clear m0 m1 hg3 hb3 ho3; have m0 := HT3.out.c0; have m1 := HT3.out.c1; rw [Nat.zero_add]))
         | ((with_reducible refine stepAppP ?_ (.tmp 63) (.tmp 64) ?_ (wo.heap.size + 1) 0 (L + 1) L c A ?_ ?_ ?_ cur cs ?_ ?_ ?_ ?_ ?_ ?_); rfl; rfl; rfl; rfl; (omega); (first | exact heap_alloc_new wo _ | exact rowOld wo _ _ | exact rowNew wo _ _); (exact HC1.out); (intro h0; obtain ⟨ad, h5, h6, h7⟩ := HC2.out h0; refine ⟨ad, h5, fun j v hj => ?_⟩; refine Eq.trans (Below.cell (chainY HBo.out ?_ (Nat.le_refl _)) (p := ad.add j) ?_) (h7 j v hj); (first | exact bDrewP (bAlP _ _) | exact bDrewP (bAlP2 _ _ _) | exact bAlP _ _ | exact bAlP2 _ _ _); (rw [add_blockY]; exact h6)); (have h1 := HCL.out; have h2 := HC1.out; omega); (exact HC3.out); (intro w3 hg3 hb3 ho3; have HX3 := Lib.hid (hb3 wo.heap.size wo (by first | exact bDrewP (bAlP _ _) | exact bDrewP (bAlP2 _ _ _) | exact bAlP _ _ | exact bAlP2 _ _ _) (by omega)); have HT3 := Lib.hid (PB.keep HG.out HX3.out); have HB3 := Lib.hid (chainY HBo.out HX3.out (Nat.le_refl _)); have HG3 := Lib.hid hg3; have HO3 := Lib.hid ho3; clear m0 m1 hg3 hb3 ho3; have m0 := HT3.out.c0; have m1 := HT3.out.c1; rw [Nat.zero_add]))
         | ((with_reducible refine stepAppP ?_ (.tmp 65) (.tmp 67) ?_ wo.heap.size L (L + 1) 1 1 (some ⟨w3.heap.size, 0, none⟩) ?_ ?_ (Nat.le_refl _) (cur.take (0 * 2) ++ cs ++ cur.drop (0 * 2 + cs.length)) [.string n, .slice A' M c'] ?_ ?_ ?_ ?_ ?_ ?_); rfl; rfl; rfl; rfl; (first | exact ((bAlP _ _).block _ (blk_ltY HG3.out)).trans HG3.out | exact ((bDrewP (bAlP _ _)).block _ (blk_ltY HG3.out)).trans HG3.out); rfl; (intro h0; exact ⟨_, rfl, srcP (heap_alloc_new w3 _)⟩); (rw [joinLen HCL.out HC1.out]; simp only [List.length_cons, List.length_nil]; omega); (exact oneP _ _ _ _); (intro w4 hg4 hb4 ho4; have HB4 := Lib.hid (hb4 w.heap.size w (chainY HB3.out (bAlP _ _) (Nat.le_refl _)) (by have := HBo.out.size; omega)); have HX4 : Hid (PB w4 w.heap.size (.string n) (.slice A' M c')) := ((ho4 _ (by have := HG.out.lt; omega)).trans (PB.keep HT3.out (by first | exact Below.refl _ _ | exact bAlP _ _ | exact bDrewP (bAlP _ _)))); clear m0 m1; have m0 := HX4.out.c0; have m1 := HX4.out.c1; have HP4 := Lib.hid (defDone HL.out HCL.out HC1.out HC4.out HU.out (by omega) HB4.out hg4); clear hg4 hb4 ho4))
         | ((with_reducible refine stepAppP ?_ (.tmp 65) (.tmp 67) ?_ wo.heap.size L (L + 1) 1 1 (some ⟨wo.heap.size + 1, 0, none⟩) ?_ ?_ (Nat.le_refl _) (cur.take (0 * 2) ++ cs ++ cur.drop (0 * 2 + cs.length)) [.string n, .slice A' M c'] ?_ ?_ ?_ ?_ ?_ ?_); rfl; rfl; rfl; rfl; (exact HG3.out); rfl; (intro h0; exact ⟨_, rfl, srcP ((HO3.out _ (by omega)).trans (rowNew wo _ _))⟩); (rw [joinLen HCL.out HC1.out]; simp only [List.length_cons, List.length_nil]; omega); (exact oneP _ _ _ _); (intro w4 hg4 hb4 ho4; have HB4 := Lib.hid (hb4 w.heap.size w (HB3.out) (by have := HBo.out.size; omega)); have HX4 : Hid (PB w4 w.heap.size (.string n) (.slice A' M c')) := ((ho4 _ (by have := HG.out.lt; omega)).trans (PB.keep HT3.out (by first | exact Below.refl _ _ | exact bAlP _ _ | exact bDrewP (bAlP _ _)))); clear m0 m1; have m0 := HX4.out.c0; have m1 := HX4.out.c1; have HP4 := Lib.hid (defDone HL.out HCL.out HC1.out HC4.out HU.out (by omega) HB4.out hg4); clear hg4 hb4 ho4))
         | ((with_reducible refine stepAppP ?_ (.tmp 65) (.tmp 67) ?_ (wo.heap.size + 1) L (L + 1) 1 1 (some ⟨wo.heap.size, 0, none⟩) ?_ ?_ (Nat.le_refl _) (cur.take (0 * 2) ++ cs ++ cur.drop (0 * 2 + cs.length)) [.string n, .slice A' M c'] ?_ ?_ ?_ ?_ ?_ ?_); rfl; rfl; rfl; rfl; (exact HG3.out); rfl; (intro h0; exact ⟨_, rfl, srcP ((HO3.out _ (by omega)).trans (rowOld wo _ _))⟩); (rw [joinLen HCL.out HC1.out]; simp only [List.length_cons, List.length_nil]; omega); (exact oneP _ _ _ _); (intro w4 hg4 hb4 ho4; have HB4 := Lib.hid (hb4 w.heap.size w (HB3.out) (by have := HBo.out.size; omega)); have HX4 : Hid (PB w4 w.heap.size (.string n) (.slice A' M c')) := ((ho4 _ (by have := HG.out.lt; omega)).trans (PB.keep HT3.out (by first | exact Below.refl _ _ | exact bAlP _ _ | exact bDrewP (bAlP _ _)))); clear m0 m1; have m0 := HX4.out.c0; have m1 := HX4.out.c1; have HP4 := Lib.hid (defDone HL.out HCL.out HC1.out HC4.out HU.out (by omega) HB4.out hg4); clear hg4 hb4 ho4))
        ))
        all_goals go_wp2_with fail
        all_goals exact retTT rfl rfl rfl ⟨_, rfl, HP4.out, HB4.out⟩
end Sy
set_option maxHeartbeats 8000000
set_option maxRecDepth 100000

def userI : List Sy.Sy := [(BA lispB, ⟨#[99, 97, 114]⟩), (BA lispB, ⟨#[110, 105, 108]⟩), (BA lispB, ⟨#[116]⟩)]
def userM : List Sy.Pg := [(⟨#[108, 105, 115, 112]⟩, []), (⟨#[117, 115, 101, 114]⟩, userI)]
theorem userEq : Sy.defineM initM5 (⟨#[117, 115, 101, 114]⟩, userI) = (userM, 0) := by kernel_rfl
theorem userB5 : PgB userM := ⟨by decide, by decide⟩
theorem userRow : ∀ i (hi : i < userI.length), ([.string (BA lispB), .string ⟨#[99, 97, 114]⟩, .string (BA lispB), .string ⟨#[110, 105, 108]⟩, .string (BA lispB), .string ⟨#[116]⟩] : List Value)[i * 2]? = some (.string userI[i].1) ∧ ([.string (BA lispB), .string ⟨#[99, 97, 114]⟩, .string (BA lispB), .string ⟨#[110, 105, 108]⟩, .string (BA lispB), .string ⟨#[116]⟩] : List Value)[i * 2 + 1]? = some (.string userI[i].2)
 | 0, _ => ⟨rfl, rfl⟩
 | 1, _ => ⟨rfl, rfl⟩
 | 2, _ => ⟨rfl, rfl⟩
 | k + 3, hi => absurd hi (by show ¬ k + 3 < 3; omega)
theorem defR (w6 : World) (x : Value) (h : Sy.PgV w6 initM5 x) : Calls Tryz.prog 36 #[x, .agg #[.string ⟨#[117, 115, 101, 114]⟩, .slice (some ⟨w6.heap.size, 0, none⟩) 3 3]] (w6.alloc (.cells #[.string (BA lispB), .string ⟨#[99, 97, 114]⟩, .string (BA lispB), .string ⟨#[110, 105, 108]⟩, .string (BA lispB), .string ⟨#[116]⟩] 45)) (Sy.RetD (w6.alloc (.cells #[.string (BA lispB), .string ⟨#[99, 97, 114]⟩, .string (BA lispB), .string ⟨#[110, 105, 108]⟩, .string (BA lispB), .string ⟨#[116]⟩] 45)) (userM, 0)) := by
 have hu : Sy.SyV (w6.alloc (.cells #[.string (BA lispB), .string ⟨#[99, 97, 114]⟩, .string (BA lispB), .string ⟨#[110, 105, 108]⟩, .string (BA lispB), .string ⟨#[116]⟩] 45)) userI (.slice (some ⟨w6.heap.size, 0, none⟩) 3 3) := Sy.SyV.of_row (g := w6.heap.size) (c := 3) (row := [.string (BA lispB), .string ⟨#[99, 97, 114]⟩, .string (BA lispB), .string ⟨#[110, 105, 108]⟩, .string (BA lispB), .string ⟨#[116]⟩]) (l := userI) (heap_alloc_new w6 _) (by show 3 ≤ 3; omega) (by decide) userRow
 have := Sy.defineRY initM5 x ⟨#[117, 115, 101, 114]⟩ userI (.slice (some ⟨w6.heap.size, 0, none⟩) 3 3) (w6.alloc (.cells #[.string (BA lispB), .string ⟨#[99, 97, 114]⟩, .string (BA lispB), .string ⟨#[110, 105, 108]⟩, .string (BA lispB), .string ⟨#[116]⟩] 45)) (h.keep (Below.alloc (Below.refl _ _) (Nat.le_refl _) _)) hu (by decide) (by decide) (by decide)
 rw [userEq] at this
 exact this
theorem packagesR (w : World) : Calls Tryz.prog 16 #[] w (fun e w' => ∃ x, e = .returned x ∧ Sy.PgV w' userM x ∧ Below w.heap.size w w') := by
 go_enter Tryz.func16, Tryz.ntmps16
 go_wp2_with fail
 refine (lispO ⟨#[99, 97, 114]⟩ _).mono ?_
 rintro e w1 ⟨rfl, hb⟩
 have hal := Below.alloc (Below.refl w1.heap.size w1) (Nat.le_refl _) (.cells #[.string (BA lispB), .string ⟨#[99, 97, 114]⟩] 45)
 have HB : Hid (Below w.heap.size w (w1.alloc (.cells #[.string (BA lispB), .string ⟨#[99, 97, 114]⟩] 45))) := chain5 hb hal
 have HS : Hid (Sy.SB (w1.alloc (.cells #[.string (BA lispB), .string ⟨#[99, 97, 114]⟩] 45)) w1.heap.size (.string (BA lispB)) (.string ⟨#[99, 97, 114]⟩)) := Sy.SB.new _ _ _
 clear hb hal
 go_upto_region 2 with fail
 generalize w1.alloc (.cells #[.string (BA lispB), .string ⟨#[99, 97, 114]⟩] 45) = W2 at HB HS ⊢
 generalize w1.heap.size = gs at HS ⊢
 have HS0 := Lib.hid (HS.out.keep ((Below.refl W2.heap.size W2).drew))
 have s0 := HS.out.c0
 have s1 := HS.out.c1
 have s00 := HS0.out.c0
 have s10 := HS0.out.c1
 go_wp2_with fail
 go_region_held3 (fun W' => W'.cell? ⟨gs, 0, none⟩ = some (.string (BA lispB)) ∧ W'.cell? ⟨gs, 1, none⟩ = some (.string ⟨#[99, 97, 114]⟩)) (go_keep) ((first | (go_at_call 23; refine (initialR5 _).mono ?_; rintro e w3 ⟨x, rfl, hx, hb⟩; have HI3 := Lib.hid hx; have HB3 := Lib.hid (chain5 (HB.out.drew) hb); have HS3 := Lib.hid (HS0.out.keep hb); have s03 := HS3.out.c0; have s13 := HS3.out.c1; clear hb; clear hx) | (go_at_call 36; refine (defR w6 x HI6.out).mono ?_; rintro e w7 ⟨y, rfl, hy, hb⟩; have HY := Lib.hid hy; have HB7 := Lib.hid (chain5 (chain5 HB6.out (Below.alloc (Below.refl _ _) (Nat.le_refl _) (.cells #[.string (BA lispB), .string ⟨#[99, 97, 114]⟩, .string (BA lispB), .string ⟨#[110, 105, 108]⟩, .string (BA lispB), .string ⟨#[116]⟩] 45))) hb); have hbb := chain5 (Below.alloc (Below.refl w6.heap.size w6) (Nat.le_refl _) (.cells #[.string (BA lispB), .string ⟨#[99, 97, 114]⟩, .string (BA lispB), .string ⟨#[110, 105, 108]⟩, .string (BA lispB), .string ⟨#[116]⟩] 45)) hb; have HS7 := Lib.hid (HS6.out.keep hbb); have s07 := HS7.out.c0; have s17 := HS7.out.c1; clear hy hb hbb) | (go_at_call 26; refine (lispO ⟨#[116]⟩ _).mono ?_; rintro e w6 ⟨rfl, hb⟩; have HI6 := Lib.hid (HI5.out.keep hb); have HB6 := Lib.hid (chain5 HB5.out hb); have HS6 := Lib.hid (HS5.out.keep hb); have s06 := HS6.out.c0; have s16 := HS6.out.c1; clear hb) | (go_at_call 26; refine (lispO ⟨#[110, 105, 108]⟩ _).mono ?_; rintro e w5 ⟨rfl, hb⟩; have HI5 := Lib.hid (HI3.out.keep hb); have HB5 := Lib.hid (chain5 HB3.out hb); have HS5 := Lib.hid (HS3.out.keep hb); have s05 := HS5.out.c0; have s15 := HS5.out.c1; clear hb)))
 go_wp2
 go_ret
 exact ⟨y, rfl, HY.out, HB7.out⟩
theorem ItL.obs {B : Nat} {w : World} {v : Value} {xs : List (Ob × Value)} (h : ItL B w v xs) : ∃ A gb c, v = .slice A xs.length c ∧ (0 < xs.length → A = some ⟨gb, 0, none⟩ ∧ gb < w.heap.size) ∧ ObsAt w (fun b => B ≤ b ∧ b < w.heap.size ∧ v.ownBlock ≠ some b) gb 0 (fsts xs) := by
 rcases h.own.2 with ⟨rfl, h0⟩ | ⟨gb, cap, cur', rfl, hb, hh, hn', _, hcs, hcur⟩
 · have hx0 : xs = [] := List.eq_nil_of_length_eq_zero h0
   subst hx0
   exact ⟨none, 0, 0, rfl, fun h => by simp at h, trivial⟩
 · refine ⟨some ⟨gb, 0, none⟩, gb, cap, rfl, fun _ => ⟨rfl, Sy.blk_ltY hh⟩, obsAt_row xs 0 h.pairs fun j u hj => ?_⟩
   rw [Nat.zero_add, cell_of_row _ _ _ _ _ _ hh]
   rw [← hcur] at hj
   rw [List.getElem?_take] at hj
   split at hj
   · simpa using hj
   · cases hj
theorem sameAllP (xs ys : List (Ob × Value)) (v u : Value) (B B' : Nat) (w : World) (hv : ItL B w v xs) (hu : ItL B' w u ys) (hxy : fsts xs = fsts ys) (hl : xs.length ≤ 10000) : Calls Tryz.prog 18 #[v, u] w (Sy.RetY w (.bool true)) := by
 have hlen : ys.length = xs.length := by rw [← fsts_len, ← fsts_len, hxy]
 obtain ⟨A, gb, c, rfl, hA, ho⟩ := hv.obs
 obtain ⟨A', gb', c', rfl, hA', ho'⟩ := hu.obs
 rw [← hxy] at ho'
 rw [hlen] at hA' ⊢
 obtain ⟨n, hn⟩ : ∃ n, xs.length = n := ⟨_, rfl⟩
 rw [hn] at hA hA' ho hl ⊢
 have HNn := Lib.hid (show (fsts xs).length = n by rw [fsts_len, hn])
 have HO := Lib.hid ho
 have HO' := Lib.hid ho'
 have HA := Lib.hid hA
 have HA' := Lib.hid hA'
 clear hv hu ho ho' hA hA' hxy hlen hn
 have H0 : Hid (Below w.heap.size w w) := Below.refl _ _
 go_enter Tryz.func18, Tryz.ntmps18
 go_wp2_with fail
 go_loopw [5] (fun v wr => ∃ (i : Nat), i ≤ n ∧ v = .int .i64 i ∧ Hid (Below w.heap.size w wr)) (fun v _ => n - (intOf v).toNat)
 case atStart => exact ⟨0, Nat.zero_le _, rfl, H0⟩
 case round =>
  obtain ⟨i, hi, rfl, HB⟩ := hrel
  obtain ⟨wo, rfl⟩ : ∃ wo : World, wo = wr := ⟨_, rfl⟩
  clear H0
  by_cases hiL : i < n
  · have hil : i < (fsts xs).length := by rw [HNn.out]; exact hiL
    obtain ⟨pa, hpa, hca⟩ := HO.out.get hil
    obtain ⟨pb, hpb, hcb⟩ := HO'.out.get hil
    obtain ⟨rfl, hg1⟩ := HA.out (by omega)
    obtain ⟨rfl, hg2⟩ := HA'.out (by omega)
    generalize (fsts xs)[i] = o at hpa hca hpb hcb
    obtain ⟨x0, x1, x2, x3, x4, x5, ex⟩ := cells7 o pa
    obtain ⟨y0, y1, y2, y3, y4, y5, ey⟩ := cells7 o pb
    have CE : Hid (∀ wd, Below w.heap.size w wd → Calls Tryz.prog 21 #[.agg #[x0, x1, x2, x3, x4, x5, pa], .agg #[y0, y1, y2, y3, y4, y5, pb]] wd (EqPost wd true)) := fun wd hb => by
     have h1 : Pair wd (fun b => b < wd.heap.size) o pa := hpa.keep (fun b h => Nat.lt_of_lt_of_le h.2.1 hb.size) (fun b h => hb.block b h.2.1)
     have h2 : Pair wd (fun b => b < wd.heap.size) o pb := hpb.keep (fun b h => Nat.lt_of_lt_of_le h.2.1 hb.size) (fun b h => hb.block b h.2.1)
     have := equalO o o pa pb wd _ (fun b h => h) h1 h2
     unfold vO at this
     rw [ex, ey, decide_eq_true rfl] at this
     exact this
    rw [ex] at hca
    rw [ey] at hcb
    have l0 := (HB.out.cell (p := ⟨gb, 0 + i * 7 + 0, none⟩) hg1).trans (hca 0 _ rfl)
    have m0 := (HB.out.cell (p := ⟨gb', 0 + i * 7 + 0, none⟩) hg2).trans (hcb 0 _ rfl)
    have l1 := (HB.out.cell (p := ⟨gb, 0 + i * 7 + 1, none⟩) hg1).trans (hca 1 _ rfl)
    have m1 := (HB.out.cell (p := ⟨gb', 0 + i * 7 + 1, none⟩) hg2).trans (hcb 1 _ rfl)
    have l2 := (HB.out.cell (p := ⟨gb, 0 + i * 7 + 2, none⟩) hg1).trans (hca 2 _ rfl)
    have m2 := (HB.out.cell (p := ⟨gb', 0 + i * 7 + 2, none⟩) hg2).trans (hcb 2 _ rfl)
    have l3 := (HB.out.cell (p := ⟨gb, 0 + i * 7 + 3, none⟩) hg1).trans (hca 3 _ rfl)
    have m3 := (HB.out.cell (p := ⟨gb', 0 + i * 7 + 3, none⟩) hg2).trans (hcb 3 _ rfl)
    have l4 := (HB.out.cell (p := ⟨gb, 0 + i * 7 + 4, none⟩) hg1).trans (hca 4 _ rfl)
    have m4 := (HB.out.cell (p := ⟨gb', 0 + i * 7 + 4, none⟩) hg2).trans (hcb 4 _ rfl)
    have l5 := (HB.out.cell (p := ⟨gb, 0 + i * 7 + 5, none⟩) hg1).trans (hca 5 _ rfl)
    have m5 := (HB.out.cell (p := ⟨gb', 0 + i * 7 + 5, none⟩) hg2).trans (hcb 5 _ rfl)
    have l6 := (HB.out.cell (p := ⟨gb, 0 + i * 7 + 6, none⟩) hg1).trans (hca 6 _ rfl)
    have m6 := (HB.out.cell (p := ⟨gb', 0 + i * 7 + 6, none⟩) hg2).trans (hcb 6 _ rfl)
    rw [Nat.zero_add] at l0 l1 l2 l3 l4 l5 l6 m0 m1 m2 m3 m4 m5 m6
    rw [Nat.add_zero] at l0 m0
    have hi1 : (0 : Int) ≤ (i : Int) := by omega
    have hi2 : (i : Int) < (n : Int) := by omega
    have hbw := HB.out
    clear hca hcb hpa hpb ex ey hg1 hg2
    go_wp2_with fail
    go_still_tail 8, (by kernel_rfl)
    change wpList _ _ _ _ _ wo.drew
    have hbd : Below w.heap.size w wo.drew := hbw.drew
    generalize wo.drew = wd at hbd ⊢
    clear l0 l1 l2 l3 l4 l5 l6 m0 m1 m2 m3 m4 m5 m6 hbw
    go_wp2_with fail
    refine (CE.out wd hbd).mono ?_
    rintro e w7 ⟨rfl, hb7⟩
    have HB7 := Lib.hid (chain5 hbd hb7)
    clear hb7 hbd
    go_wp2_with fail
    go_roundw
    case rel => exact ⟨i + 1, by omega, by go_num, HB7⟩
    case measure => simp [intOf]; omega
  · have hiN : ¬ (i : Int) < (n : Int) := by omega
    go_wp2_with fail
    go_ret
    exact ⟨rfl, HB.out⟩
set_option maxHeartbeats 8000000
set_option maxRecDepth 100000

theorem all_len {sym : Tk → (List UInt8 × List UInt8) × Int} {num : Tk → Rat} : ∀ (f : Nat) (acc : List (Ob × Int)) (ts : List Tk) (l : List (Ob × Int)), WfT ts → allF sym num f acc ts = (.ok l, true) → l.length ≤ acc.length + ts.length
 | 0, acc, ts, l, hw, h => by simp [allF] at h
 | f + 1, acc, [], l, hw, h => by simp [allF] at h
 | f + 1, acc, t :: ts, l, hw, h => by
  have h1 := (par_ok sym num (2 * (ts.length + 1) + 2)).1 0 _ hw
  rw [allF_cons] at h
  split at h
  · simp at h; rw [h]; omega
  split at h
  · simp at h
  split at h
  · simp at h
  · simp at h
  · rename_i o r hp
    rw [hp] at h1
    split at h
    · simp at h
    · have h2 := all_len f _ _ _ h1.1 h
      have h3 := h1.2.1
      rw [List.length_append] at h2
      simp only [List.length_cons, List.length_nil] at h2 h3 ⊢
      omega
theorem read_len {l : List Sy.Pg} {cur s : ByteArray} (hs : SmS s) {os : List (Ob × Int)} (h : readS l cur s = .ok os) : os.length ≤ 700 := by
 unfold readS at h
 cases hS : scanS s with
 | error x => rw [hS] at h; cases h
 | ok ts =>
  rw [hS] at h
  dsimp only at h
  have hw := (scanS_ok hS).1
  have h1 := readL_eq (symL l cur) numK ts hw
  rw [h] at h1
  have := all_len _ _ _ _ hw h1
  have := hs.toks ts hS
  simp only [List.length_nil] at *
  omega
def Rdd (f : FuncId) (s cur : ByteArray) (x p : Int) (os : List Ob) : Prop := ∀ (w : World) (lv : Value), Sy.PgV w userM lv → Calls Tryz.prog f #[lv, .string cur, .string s] w (fun e w' => ∃ v xs, e = .returned (.tuple #[v, .agg #[.int .i64 x, .int .i64 p]]) ∧ ItL w.heap.size w' v xs ∧ fsts xs = os ∧ Below w.heap.size w w')
theorem bothRd (s cur : ByteArray) (hs : SmS s) : ∃ (x p : Int) (os : List Ob), os.length ≤ 10000 ∧ Rdd 15 s cur x p os ∧ Rdd 17 s cur x p os := by
 have k1 := fun (w : World) (lv : Value) (h : Sy.PgV w userM lv) => readPr s cur userM lv w h userB5 hs
 have k2 := fun (w : World) (lv : Value) (h : Sy.PgV w userM lv) => readR5 s cur userM lv w h userB5 hs
 cases hR : readS userM cur s with
 | error y =>
  obtain ⟨x, p⟩ := y
  rw [hR] at k1 k2
  refine ⟨x, p, [], by simp, fun w lv h => (k1 w lv h).mono ?_, fun w lv h => (k2 w lv h).mono ?_⟩
  · rintro e w' ⟨hb, he⟩
    exact ⟨_, [], he, ItL.start _ _, rfl, hb⟩
  · rintro e w' ⟨hb, he⟩
    exact ⟨_, [], he, ItL.start _ _, rfl, hb⟩
 | ok os =>
  rw [hR] at k1 k2
  refine ⟨0, 0, os.map (·.1), by have := read_len hs hR; rw [List.length_map]; omega, fun w lv h => (k1 w lv h).mono ?_, fun w lv h => (k2 w lv h).mono ?_⟩
  · rintro e w' ⟨hb, v, xs, he, h1, h2⟩
    exact ⟨v, xs, he, h1, h2, hb⟩
  · rintro e w' ⟨hb, v, xs, he, h1, h2⟩
    exact ⟨v, xs, he, h1, h2, hb⟩
theorem lawReadsF (l : List Int) (v : Value) (w : World) (hv : IntV w l v) : Calls Tryz.prog 5 #[v, .bool false] w (Sy.RetY w (.bool true)) := by
 have HV := Lib.hid hv
 obtain ⟨A, c, rfl, _⟩ := hv
 obtain ⟨n, hn⟩ : ∃ n, l.length = n := ⟨_, rfl⟩
 rw [hn] at HV ⊢
 have HN := Lib.hid hn
 clear hn
 by_cases hbig : 40 < n
 · have h1 : (40 : Int) < (n : Int) := by omega
   go_enter Tryz.func5, Tryz.ntmps5
   go_wp2_with fail
   refine (firstP5 _).mono ?_
   rintro e w1 ⟨rfl, hb⟩
   go_wp2
   go_ret
   exact ⟨rfl, hb⟩
 · have h1 : ¬ (40 : Int) < (n : Int) := by omega
   have KPI : Hid (∀ W, Below w.heap.size w W → Calls Tryz.prog 14 #[.slice A n c] W (fun e w' => ∃ s : ByteArray, e = .returned (.string s) ∧ s.size ≤ 240 ∧ Below W.heap.size W w')) := fun W hb => by
    refine (piecesP l _ W (HV.out.keep hb) (by rw [HN.out]; omega)).mono ?_
    rintro e w' ⟨s, h1, h2, h3⟩
    exact ⟨s, h1, by rw [HN.out] at h2; omega, h3⟩
   clear hbig
   go_enter Tryz.func5, Tryz.ntmps5
   go_wp2_with fail
   refine (firstP5 _).mono ?_
   rintro e w0 ⟨rfl, hb0⟩
   have HB := Lib.hid hb0
   clear hb0
   go_wp2_with fail
   refine (KPI.out _ HB.out).mono ?_
   rintro e w9 ⟨s, rfl, hs, hb9⟩
   replace HB := Lib.hid (chain5 HB.out hb9)
   clear hb9
   obtain ⟨x, p, os, hol, hP, hR⟩ := bothRd s ⟨#[117, 115, 101, 114]⟩ (SmS.of (by omega))
   have HOL := Lib.hid hol
   have KP := Lib.hid hP
   have KR := Lib.hid hR
   clear hol hP hR hs
   go_wp2_with fail
   refine (packagesR _).mono ?_
   rintro e w1 ⟨x1, rfl, hx1, hb1⟩
   have HX1 := Lib.hid hx1
   replace HB := Lib.hid (chain5 HB.out hb1)
   clear hx1 hb1
   go_wp2_with fail
   refine (KP.out _ _ HX1.out).mono ?_
   rintro e w2 ⟨v2, xs2, rfl, hi2, hf2, hb2⟩
   have hal := Below.alloc (Below.refl w2.heap.size w2) (Nat.le_refl _) (.cells #[.int .i64 x, .int .i64 p] 26)
   replace HB := Lib.hid (chain5 (chain5 HB.out hb2) hal)
   have E2 : Hid (EB (w2.alloc (.cells #[.int .i64 x, .int .i64 p] 26)) w2.heap.size (.int .i64 x) (.int .i64 p)) := EB.new _ _ _
   have V2 := Lib.hid (hi2.keep hal)
   have F2 := Lib.hid hf2
   clear hi2 hf2 hb2 hal HX1
   go_upto_region 10 with fail
   generalize (w2.alloc (.cells #[.int .i64 x, .int .i64 p] 26)) = W3 at HB E2 V2 ⊢
   generalize w2.heap.size = g2 at E2 V2 ⊢
   go_wp2_with fail
   refine (packagesR _).mono ?_
   rintro e w4 ⟨x4, rfl, hx4, hb4⟩
   have HX4 := Lib.hid hx4
   replace HB := Lib.hid (chain5 HB.out hb4)
   replace E2 := Lib.hid (E2.out.keep hb4)
   replace V2 := Lib.hid (V2.out.keep hb4)
   clear hx4 hb4
   go_wp2_with fail
   refine (KR.out _ _ HX4.out).mono ?_
   rintro e w5 ⟨v5, xs5, rfl, hi5, hf5, hb5⟩
   have hal := Below.alloc (Below.refl w5.heap.size w5) (Nat.le_refl _) (.cells #[.int .i64 x, .int .i64 p] 26)
   have hbb := chain5 hb5 hal
   replace HB := Lib.hid (chain5 HB.out hbb)
   replace E2 := Lib.hid (E2.out.keep hbb)
   replace V2 := Lib.hid (V2.out.keep hbb)
   have E5 : Hid (EB (w5.alloc (.cells #[.int .i64 x, .int .i64 p] 26)) w5.heap.size (.int .i64 x) (.int .i64 p)) := EB.new _ _ _
   have V5 := Lib.hid (hi5.keep hal)
   have F5 := Lib.hid hf5
   clear hi5 hf5 hb5 hal hbb HX4
   go_upto_region 11 with fail
   generalize (w5.alloc (.cells #[.int .i64 x, .int .i64 p] 26)) = W6 at HB E2 V2 E5 V5 ⊢
   generalize w5.heap.size = g5 at E5 V5 ⊢
   have c0 := E2.out.c0
   have c1 := E2.out.c1
   have d0 := E5.out.c0
   have d1 := E5.out.c1
   go_wp2_with fail
   refine (sameAllP xs2 xs5 v2 v5 _ _ _ V2.out V5.out (F2.out.trans F5.out.symm) (by rw [← fsts_len, F2.out]; exact HOL.out)).mono ?_
   rintro e w7 ⟨rfl, hb7⟩
   have HB7 := Lib.hid (chain5 HB.out hb7)
   clear hb7 c0 c1 d0 d1
   go_wp2
   go_ret
   exact ⟨rfl, HB7.out⟩
theorem lawReadsT (l : List Int) (v : Value) (w : World) (hv : IntV w l v) : Calls Tryz.prog 5 #[v, .bool true] w (Sy.RetY w (.bool true)) := by
 have HV := Lib.hid hv
 obtain ⟨A, c, rfl, _⟩ := hv
 obtain ⟨n, hn⟩ : ∃ n, l.length = n := ⟨_, rfl⟩
 rw [hn] at HV ⊢
 have HN := Lib.hid hn
 clear hn
 by_cases hbig : 40 < n
 · have h1 : (40 : Int) < (n : Int) := by omega
   go_enter Tryz.func5, Tryz.ntmps5
   go_wp2_with fail
   refine (firstP5 _).mono ?_
   rintro e w1 ⟨rfl, hb⟩
   go_wp2
   go_ret
   exact ⟨rfl, hb⟩
 · have h1 : ¬ (40 : Int) < (n : Int) := by omega
   have KPI : Hid (∀ W, Below w.heap.size w W → Calls Tryz.prog 14 #[.slice A n c] W (fun e w' => ∃ s : ByteArray, e = .returned (.string s) ∧ s.size ≤ 240 ∧ Below W.heap.size W w')) := fun W hb => by
    refine (piecesP l _ W (HV.out.keep hb) (by rw [HN.out]; omega)).mono ?_
    rintro e w' ⟨s, h1, h2, h3⟩
    exact ⟨s, h1, by rw [HN.out] at h2; omega, h3⟩
   clear hbig
   go_enter Tryz.func5, Tryz.ntmps5
   go_wp2_with fail
   refine (firstP5 _).mono ?_
   rintro e w0 ⟨rfl, hb0⟩
   have HB := Lib.hid hb0
   clear hb0
   go_wp2_with fail
   refine (KPI.out _ HB.out).mono ?_
   rintro e w9 ⟨s, rfl, hs, hb9⟩
   replace HB := Lib.hid (chain5 HB.out hb9)
   clear hb9
   obtain ⟨x, p, os, hol, hP, hR⟩ := bothRd s ⟨#[111, 116, 104, 101, 114]⟩ (SmS.of (by omega))
   have HOL := Lib.hid hol
   have KP := Lib.hid hP
   have KR := Lib.hid hR
   clear hol hP hR hs
   go_wp2_with fail
   refine (packagesR _).mono ?_
   rintro e w1 ⟨x1, rfl, hx1, hb1⟩
   have HX1 := Lib.hid hx1
   replace HB := Lib.hid (chain5 HB.out hb1)
   clear hx1 hb1
   go_wp2_with fail
   refine (KP.out _ _ HX1.out).mono ?_
   rintro e w2 ⟨v2, xs2, rfl, hi2, hf2, hb2⟩
   have hal := Below.alloc (Below.refl w2.heap.size w2) (Nat.le_refl _) (.cells #[.int .i64 x, .int .i64 p] 26)
   replace HB := Lib.hid (chain5 (chain5 HB.out hb2) hal)
   have E2 : Hid (EB (w2.alloc (.cells #[.int .i64 x, .int .i64 p] 26)) w2.heap.size (.int .i64 x) (.int .i64 p)) := EB.new _ _ _
   have V2 := Lib.hid (hi2.keep hal)
   have F2 := Lib.hid hf2
   clear hi2 hf2 hb2 hal HX1
   go_upto_region 10 with fail
   generalize (w2.alloc (.cells #[.int .i64 x, .int .i64 p] 26)) = W3 at HB E2 V2 ⊢
   generalize w2.heap.size = g2 at E2 V2 ⊢
   go_wp2_with fail
   refine (packagesR _).mono ?_
   rintro e w4 ⟨x4, rfl, hx4, hb4⟩
   have HX4 := Lib.hid hx4
   replace HB := Lib.hid (chain5 HB.out hb4)
   replace E2 := Lib.hid (E2.out.keep hb4)
   replace V2 := Lib.hid (V2.out.keep hb4)
   clear hx4 hb4
   go_wp2_with fail
   refine (KR.out _ _ HX4.out).mono ?_
   rintro e w5 ⟨v5, xs5, rfl, hi5, hf5, hb5⟩
   have hal := Below.alloc (Below.refl w5.heap.size w5) (Nat.le_refl _) (.cells #[.int .i64 x, .int .i64 p] 26)
   have hbb := chain5 hb5 hal
   replace HB := Lib.hid (chain5 HB.out hbb)
   replace E2 := Lib.hid (E2.out.keep hbb)
   replace V2 := Lib.hid (V2.out.keep hbb)
   have E5 : Hid (EB (w5.alloc (.cells #[.int .i64 x, .int .i64 p] 26)) w5.heap.size (.int .i64 x) (.int .i64 p)) := EB.new _ _ _
   have V5 := Lib.hid (hi5.keep hal)
   have F5 := Lib.hid hf5
   clear hi5 hf5 hb5 hal hbb HX4
   go_upto_region 11 with fail
   generalize (w5.alloc (.cells #[.int .i64 x, .int .i64 p] 26)) = W6 at HB E2 V2 E5 V5 ⊢
   generalize w5.heap.size = g5 at E5 V5 ⊢
   have c0 := E2.out.c0
   have c1 := E2.out.c1
   have d0 := E5.out.c0
   have d1 := E5.out.c1
   go_wp2_with fail
   refine (sameAllP xs2 xs5 v2 v5 _ _ _ V2.out V5.out (F2.out.trans F5.out.symm) (by rw [← fsts_len, F2.out]; exact HOL.out)).mono ?_
   rintro e w7 ⟨rfl, hb7⟩
   have HB7 := Lib.hid (chain5 HB.out hb7)
   clear hb7 c0 c1 d0 d1
   go_wp2
   go_ret
   exact ⟨rfl, HB7.out⟩
theorem lawReads (l : List Int) (v : Value) (b : Bool) (w : World) (hv : IntV w l v) : Calls Tryz.prog 5 #[v, .bool b] w (Sy.RetY w (.bool true)) := by
 cases b with
 | false => exact lawReadsF l v w hv
 | true => exact lawReadsT l v w hv
end Go.Proofs.YtflnffgohbbhiaaGreatDoor
