import Derived.Test.YtbffnoodpoagcaaGreatDoorAl
import Derived.Test.YtbffnoodpoagcaaGreatDoorG28
namespace Go.Proofs.YtbffnoodpoagcaaGreatDoor
open Go Go.RowKit
set_option linter.unusedVariables false
theorem objs3w {w W : World} {g : Nat} {r s t : Rw} {r0 r1 r2 r3 s0 s1 s2 s3 t0 t1 t2 t3 : Value} (hr : RawAt w (Has w) r [r0, r1, r2, r3]) (hs : RawAt w (Has w) s [s0, s1, s2, s3]) (ht : RawAt w (Has w) t [t0, t1, t2, t3]) (hb : Below w.heap.size w W) (hT : Tab W)
 (hg : W.heap[g]? = some (.cells #[r0, r1, r2, r3, s0, s1, s2, s3, t0, t1, t2, t3] 49 (0, 0))) (fr : few r 20 = true) (fs : few s 20 = true) (ft : few t 20 = true) :
 Calls Tryz.prog 26 #[.slice (some ⟨g, 0, none⟩) 3 3] W (RetAr W 3) := by
 have hf : ∀ i (hi : i < [r, s, t].length), few [r, s, t][i] (20 : Nat) = true := fun i hi => by
  match i, hi with
  | 0, _ => exact fr
  | 1, _ => exact fs
  | 2, _ => exact ft
  | m + 3, h => exact absurd h (by simp)
 have hm : ∀ b, Has w b → Has W b := fun b h => Nat.lt_of_lt_of_le h hb.size
 have hraws : RawsAt W (Has W) g 0 [r, s, t] := by
  refine RawsAt.of [r, s, t] 0 fun i hi => ?_
  match i, hi with
  | 0, _ => exact ⟨[r0, r1, r2, r3], RawAt.more hm _ _ (hr.below (In.has w) hb), fun j u hj => by
   rw [cell_of_row _ _ _ _ _ _ hg]
   match j, hj with
   | 0, hj => exact hj
   | 1, hj => exact hj
   | 2, hj => exact hj
   | 3, hj => exact hj
   | m + 4, hj => simp at hj⟩
  | 1, _ => exact ⟨[s0, s1, s2, s3], RawAt.more hm _ _ (hs.below (In.has w) hb), fun j u hj => by
   rw [cell_of_row _ _ _ _ _ _ hg]
   match j, hj with
   | 0, hj => exact hj
   | 1, hj => exact hj
   | 2, hj => exact hj
   | 3, hj => exact hj
   | m + 4, hj => simp at hj⟩
  | 2, _ => exact ⟨[t0, t1, t2, t3], RawAt.more hm _ _ (ht.below (In.has w) hb), fun j u hj => by
   rw [cell_of_row _ _ _ _ _ _ hg]
   match j, hj with
   | 0, hj => exact hj
   | 1, hj => exact hj
   | 2, hj => exact hj
   | 3, hj => exact hj
   | m + 4, hj => simp at hj⟩
  | m + 3, h => exact absurd h (by simp)
 exact (objectsO [r, s, t] (some ⟨g, 0, none⟩) 3 W (Has W) (In.has W) (by show 3 ≤ 8; decide) (Nat.le_refl _) hT (fun _ => ⟨_, _, rfl, lt_of_heap hg, hraws⟩) (fun x hx => by
  obtain ⟨i, hi, rfl⟩ := List.getElem_of_mem hx
  exact (few_ok (hf i hi)).1)).mono fun _ _ h => h.ar (by have := cnts_le _ 20 hf; simp at this; omega)
theorem applyPE (i : Nat) (hi : i < 25) (os : List Ob) (v : Value) (W : World) (ha : Ar W os v) (hl : os.length = arB.getD i 0) (hs : ∀ o ∈ os, Sml o) (ht : Tab W) : Calls Tryz.prog 17 #[.agg #[.string (BA lispB), .string (nmS i)], v] W (fun e w' => ∃ o p, e = .returned (.tuple #[vO o p, .int .i64 0]) ∧ Hd w' o p ∧ Good o ∧ Below W.heap.size W w') := by
 have h := applyPall (BA lispB) (nmS i) os v W ha true ht (fun o ho => (hs o ho).fine) (fun j _ _ o ho => (hs o ho).ints) (fun j hj hl W q hq _ => by
  rw [fnd_at i hi] at hj; injection hj with hj; subst hj
  exact validGP _ q W (primV_good i os hi hl hs) hq)
 rw [fnd_at i hi, show appV true (some i) os = (some (primV i os), 0) from if_pos hl] at h
 exact h.mono fun e w' h' => by
  obtain ⟨p, h1, h2, h3⟩ : ∃ p, e = .returned (.tuple #[vO (primV i os) p, .int .i64 0]) ∧ Hd w' (primV i os) p ∧ Below W.heap.size W w' := h'
  exact ⟨_, p, h1, h2, primV_good i os hi hl hs, h3⟩
set_option maxHeartbeats 16000000 in
set_option maxRecDepth 100000 in
theorem lawClosed (n : Int) (r : Rw) (r0 r1 r2 r3 : Value) (s : Rw) (s0 s1 s2 s3 : Value) (t : Rw) (t0 t1 t2 t3 : Value) (w : World) (h64 : I64 n) (hrr : RawAt w (Has w) r [r0, r1, r2, r3]) (hrs : RawAt w (Has w) s [s0, s1, s2, s3]) (hrt : RawAt w (Has w) t [t0, t1, t2, t3]) (ht : Tab w) :
 Calls Tryz.prog 5 #[.int .i64 n, .agg #[r0, r1, r2, r3], .agg #[s0, s1, s2, s3], .agg #[t0, t1, t2, t3]] w (RetB w true) := by
 have Rr := qh9 hrr
 clear hrr
 have CFr : Hid (∀ W', Below w.heap.size w W' → Calls Tryz.prog 23 #[.agg #[r0, r1, r2, r3], .int .i64 20] W' (RetB W' (few r 20))) := fun W' h => fewO r [r0, r1, r2, r3] 20 W' (Has w) (In.has w |>.later h.size) (Rr.out.below (In.has w) h) (by decide) (by decide)
 have Rs := qh9 hrs
 clear hrs
 have CFs : Hid (∀ W', Below w.heap.size w W' → Calls Tryz.prog 23 #[.agg #[s0, s1, s2, s3], .int .i64 20] W' (RetB W' (few s 20))) := fun W' h => fewO s [s0, s1, s2, s3] 20 W' (Has w) (In.has w |>.later h.size) (Rs.out.below (In.has w) h) (by decide) (by decide)
 have Rt := qh9 hrt
 clear hrt
 have CFt : Hid (∀ W', Below w.heap.size w W' → Calls Tryz.prog 23 #[.agg #[t0, t1, t2, t3], .int .i64 20] W' (RetB W' (few t 20))) := fun W' h => fewO t [t0, t1, t2, t3] 20 W' (Has w) (In.has w |>.later h.size) (Rt.out.below (In.has w) h) (by decide) (by decide)
 have COb : Hid (few r 20 = true → few s 20 = true → few t 20 = true → ∀ W' g, Below w.heap.size w W' → Tab W' → W'.heap[g]? = some (.cells #[r0, r1, r2, r3, s0, s1, s2, s3, t0, t1, t2, t3] 49 (0, 0)) → Calls Tryz.prog 26 #[.slice (some ⟨g, 0, none⟩) 3 3] W' (RetAr W' 3)) := fun f1 f2 f3 W' g h hT hg => objs3w Rr.out Rs.out Rt.out h hT hg f1 f2 f3
 generalize few r 20 = fr at CFr COb
 generalize few s 20 = fs at CFs COb
 generalize few t 20 = ft at CFt COb
 obtain ⟨i, hi0⟩ : ∃ i, (n % 25).toNat = i := ⟨_, rfl⟩
 have hi : i < 25 := by omega
 have CN : Hid (∀ W, Calls Tryz.prog 25 #[.int .i64 n] W (RetY W (.agg #[.string (BA lispB), .string (nmS i)]))) := fun W => by have h := pickO n W h64; rw [hi0] at h; exact h
 have CAp : Hid (∀ os v W, Ar W os v → os.length = arB.getD i 0 → (∀ o ∈ os, Sml o) → Tab W → Calls Tryz.prog 17 #[.agg #[.string (BA lispB), .string (nmS i)], v] W (fun e w' => ∃ o p, e = .returned (.tuple #[vO o p, .int .i64 0]) ∧ Hd w' o p ∧ Good o ∧ Below W.heap.size W w')) := fun os v W => applyPE i hi os v W
 have CV : Hid (∀ o p W, Hd W o p → Good o → Calls Tryz.prog 11 #[vO o p] W (RetB W true)) := fun o p W hp hg => validGR o p W hg hp
 have hk3 : arB.getD i 0 ≤ 3 := by rcases arity_cases i hi with ⟨h, _⟩ | h | h <;> (rw [h]; decide)
 have CA : Hid (∀ W, Calls Tryz.prog 24 #[.agg #[.string (BA lispB), .string (nmS i)]] W (RetIB W ((arB.getD i 0 : Nat) : Int) true)) := fun W => by have h := arityR (BA lispB) (nmS i) W; rw [fnd_at i hi] at h; exact h
 generalize arB.getD i 0 = kn at *
 clear hi hi0 h64
 generalize nmS i = nm at *
 generalize BA lispB = LB at *
 have HT := qh9 ht
 clear ht Rr Rs Rt
 go_enter Tryz.func5, Tryz.ntmps5
 go_upto_region 1 with fail
 have hBX := Box3.new w #[r0, r1, r2, r3] #[s0, s1, s2, s3] #[t0, t1, t2, t3]
 generalize (((w.alloc (.cells #[r0, r1, r2, r3] 49)).alloc (.cells #[s0, s1, s2, s3] 49)).alloc (.cells #[t0, t1, t2, t3] 49)) = W at hBX ⊢
 have HW := qh9 hBX.bel
 replace HT := qh9 (HT.out.below hBX.bel)
 have BX := qh9 hBX
 clear hBX
 go_wp2_with fail
 with_reducible refine (first7 _ HT.out).mono ?_
 rintro e w1 ⟨rfl, hb⟩
 replace HT := qh9 (HT.out.below hb)
 replace HW := qc9 HW hb
 replace BX := qh9 (BX.out.below hb)
 clear hb
 obtain ⟨⟨a0, a1, a2, a3⟩, ⟨b0, b1, b2, b3⟩, ⟨c0, c1, c2, c3⟩⟩ := BX.out.cells
 go_wp2_with fail
 clear a0 a1 a2 a3 b0 b1 b2 b3 c0 c1 c2 c3
 with_reducible refine (CFr.out _ HW.out).mono ?_
 rintro e w2 ⟨rfl, hb⟩
 replace HT := qh9 (HT.out.below hb)
 replace HW := qc9 HW hb
 replace BX := qh9 (BX.out.below hb)
 clear hb
 cases fr with
 | false =>
  go_wp2
  all_goals go_ret
  all_goals exact ⟨rfl, HW.out⟩
 | true =>
  obtain ⟨⟨a0, a1, a2, a3⟩, ⟨b0, b1, b2, b3⟩, ⟨c0, c1, c2, c3⟩⟩ := BX.out.cells
  go_wp2_with fail
  clear a0 a1 a2 a3 b0 b1 b2 b3 c0 c1 c2 c3
  with_reducible refine (CFs.out _ HW.out).mono ?_
  rintro e w3 ⟨rfl, hb⟩
  replace HT := qh9 (HT.out.below hb)
  replace HW := qc9 HW hb
  replace BX := qh9 (BX.out.below hb)
  clear hb
  cases fs with
  | false =>
   go_wp2
   all_goals go_ret
   all_goals exact ⟨rfl, HW.out⟩
  | true =>
   obtain ⟨⟨a0, a1, a2, a3⟩, ⟨b0, b1, b2, b3⟩, ⟨c0, c1, c2, c3⟩⟩ := BX.out.cells
   go_wp2_with fail
   clear a0 a1 a2 a3 b0 b1 b2 b3 c0 c1 c2 c3
   with_reducible refine (CFt.out _ HW.out).mono ?_
   rintro e w4 ⟨rfl, hb⟩
   replace HT := qh9 (HT.out.below hb)
   replace HW := qc9 HW hb
   replace BX := qh9 (BX.out.below hb)
   clear hb
   cases ft with
   | false =>
    go_wp2
    all_goals go_ret
    all_goals exact ⟨rfl, HW.out⟩
   | true =>
    go_wp2_with fail
    with_reducible refine (CN.out _).mono ?_
    rintro e w5 ⟨rfl, hb⟩
    replace HT := qh9 (HT.out.below hb)
    replace HW := qc9 HW hb
    replace BX := qh9 (BX.out.below hb)
    clear hb
    go_wp2_with fail
    with_reducible refine (CA.out _).mono ?_
    rintro e w6 ⟨rfl, hb⟩
    replace HT := qh9 (HT.out.below hb)
    replace HW := qc9 HW hb
    replace BX := qh9 (BX.out.below hb)
    clear hb
    go_upto_region 6 with fail
    have COb1 := qh9 (COb.out (by simp) (by simp) (by simp))
    have hk0 : (0 : Int) ≤ (kn : Int) := by omega
    clear COb CA
    refine wp_region_growX (l := _) 14 (by kernel_rfl) (by kernel_rfl) (fun i => [35, 36, 37, 38, 39, 40, 41, 42, 43, 44, 34, 45, 46, 11].getD i 0) (LR [LV (.int .i64 n), LV (.agg #[.string LB, .string nm]), LV (.agg #[r0, r1, r2, r3]), LV (.agg #[s0, s1, s2, s3]), LV (.agg #[t0, t1, t2, t3]), LRw #[r0, r1, r2, r3, s0, s1, s2, s3, t0, t1, t2, t3], LOs 3, LV (.int .i64 (kn : Int)), LOs kn, LUt, LUt, LG, LV (.int .i64 0), LBx]) (LR_mono (l := [LV (.int .i64 n), LV (.agg #[.string LB, .string nm]), LV (.agg #[r0, r1, r2, r3]), LV (.agg #[s0, s1, s2, s3]), LV (.agg #[t0, t1, t2, t3]), LRw #[r0, r1, r2, r3, s0, s1, s2, s3, t0, t1, t2, t3], LOs 3, LV (.int .i64 (kn : Int)), LOs kn, LUt, LUt, LG, LV (.int .i64 0), LBx]) ⟨mLV _, mLV _, mLV _, mLV _, mLV _, mLRw _, mLOs _, mLV _, mLOs _, mLUt, mLUt, mLG, mLV _, mLBx, trivial⟩) (by
     intro i j hi hj h
     exact inj_getD [35, 36, 37, 38, 39, 40, 41, 42, 43, 44, 34, 45, 46, 11] (by decide) i j hi hj h) (by
     intro i hi
     exact lt_getD 53 [35, 36, 37, 38, 39, 40, 41, 42, 43, 44, 34, 45, 46, 11] (by decide) i hi) [12] (by kernel_rfl) 13 11 (by omega) (by omega) (by kernel_rfl) (by kernel_rfl) _ rfl rfl rfl rfl
     (fun _ _ _ _ h => h) Good (fun _ _ _ _ h => h) ?step ?stepL ?done
    case step =>
     intro i hi a w9 v lo hi' hoth hb hw
     have sl0 : a.tmps[0]? = some (.int .i64 n) := (hoth 0 (fun j hj => by
      have := ne_getD 0 [35, 36, 37, 38, 39, 40, 41, 42, 43, 44, 34, 45, 46, 11] (by decide) j hj
      exact this)).trans rfl
     have sl5 : a.tmps[5]? = some (.pointer (some ⟨w.heap.size, 0, none⟩)) := (hoth 5 (fun j hj => by
      have := ne_getD 5 [35, 36, 37, 38, 39, 40, 41, 42, 43, 44, 34, 45, 46, 11] (by decide) j hj
      exact this)).trans rfl
     have sl6 : a.tmps[6]? = some (.pointer (some ⟨w.heap.size + 1, 0, none⟩)) := (hoth 6 (fun j hj => by
      have := ne_getD 6 [35, 36, 37, 38, 39, 40, 41, 42, 43, 44, 34, 45, 46, 11] (by decide) j hj
      exact this)).trans rfl
     have sl7 : a.tmps[7]? = some (.pointer (some ⟨w.heap.size + 1 + 1, 0, none⟩)) := (hoth 7 (fun j hj => by
      have := ne_getD 7 [35, 36, 37, 38, 39, 40, 41, 42, 43, 44, 34, 45, 46, 11] (by decide) j hj
      exact this)).trans rfl
     have sl9 : a.tmps[9]? = some (.int .i64 (kn : Int)) := (hoth 9 (fun j hj => by
      have := ne_getD 9 [35, 36, 37, 38, 39, 40, 41, 42, 43, 44, 34, 45, 46, 11] (by decide) j hj
      exact this)).trans rfl
     match i, hi with
     | 0, _ =>
      exact gw_move rfl (wanted_plain rfl) 0 _ rfl sl0 ⟨_, rfl, Below.refl _ _, rfl⟩
     | 1, _ =>
      obtain ⟨ss0, rr0, _⟩ := hw 0 (by omega) (by kernel_rfl)
      have ee0 : v 0 = _ := rr0
      rw [ee0] at ss0
      refine gw_t rfl (wanted_plain rfl) 25 35 _ _ rfl (fun v w => by go_simp) ss0 ?_
      with_reducible refine (CN.out w9).mono ?_
      rintro e w3 ⟨rfl, hb3⟩
      exact ⟨_, rfl, _, rfl, hb3, rfl⟩
     | 2, _ =>
      exact gw_load rfl (wanted_plain rfl) 49 (.tmp 5) rfl w.heap.size (eval_of sl5) _ _ _ _ (BX.out.below hb).b0 Tryz.underlying49 rfl (by kernel_rfl) ⟨_, rfl, Below.refl _ _, rfl⟩
     | 3, _ =>
      exact gw_load rfl (wanted_plain rfl) 49 (.tmp 6) rfl (w.heap.size + 1) (eval_of sl6) _ _ _ _ (BX.out.below hb).b1 Tryz.underlying49 rfl (by kernel_rfl) ⟨_, rfl, Below.refl _ _, rfl⟩
     | 4, _ =>
      exact gw_load rfl (wanted_plain rfl) 49 (.tmp 7) rfl (w.heap.size + 1 + 1) (eval_of sl7) _ _ _ _ (BX.out.below hb).b2 Tryz.underlying49 rfl (by kernel_rfl) ⟨_, rfl, Below.refl _ _, rfl⟩
     | 5, _ =>
      obtain ⟨ss0, rr0, _⟩ := hw 2 (by omega) (by kernel_rfl)
      have ee0 : v 2 = _ := rr0
      rw [ee0] at ss0
      obtain ⟨ss1, rr1, _⟩ := hw 3 (by omega) (by kernel_rfl)
      have ee1 : v 3 = _ := rr1
      rw [ee1] at ss1
      obtain ⟨ss2, rr2, _⟩ := hw 4 (by omega) (by kernel_rfl)
      have ee2 : v 4 = _ := rr2
      rw [ee2] at ss2
      exact gw_bs3 rfl (wanted_plain rfl) 37 38 39 rfl ss0 ss1 ss2 ⟨_, rfl, Below.alloc (Below.refl _ _) (Nat.le_refl _) _, rfl, heap_alloc_new _ _, by simp⟩
     | 6, _ =>
      obtain ⟨ss0, rr0, _⟩ := hw 5 (by omega) (by kernel_rfl)
      obtain ⟨ee, gg, _⟩ : LRw #[r0, r1, r2, r3, s0, s1, s2, s3, t0, t1, t2, t3] (v 5) (lo 5) (hi' 5) w9 := rr0
      rw [ee] at ss0
      refine gw_t rfl (wanted_plain rfl) 26 40 _ _ rfl (fun v w => by go_simp) ss0 ?_
      with_reducible refine (COb1.out w9 _ (chain2 HW.out hb (Nat.le_refl _)) (HT.out.below hb) gg).mono ?_
      rintro e w3 ⟨os, sv, rfl, ha, hl, hs, hb3⟩
      exact ⟨_, rfl, _, rfl, hb3, os, ha, hl, hs⟩
     | 7, _ =>
      exact gw_move rfl (wanted_plain rfl) 9 _ rfl sl9 ⟨_, rfl, Below.refl _ _, rfl⟩
     | 8, _ =>
      obtain ⟨ss0, rr0, _⟩ := hw 6 (by omega) (by kernel_rfl)
      obtain ⟨os, ha, hl, hs⟩ : LOs 3 (v 6) (lo 6) (hi' 6) w9 := rr0
      obtain ⟨ss1, rr1, _⟩ := hw 7 (by omega) (by kernel_rfl)
      have ee1 : v 7 = _ := rr1
      rw [ee1] at ss1
      obtain ⟨A, c, e, hc, hA⟩ := id ha
      obtain ⟨b0, o0, rfl, _⟩ := hA (by rw [hl]; decide)
      rw [e] at ss0 ha
      have h1 := ha.take (k := kn) (by rw [hl]; exact hk3)
      exact gw_slc rfl (wanted_plain rfl) 41 42 b0 o0 _ c kn rfl ss0 ss1 hk0 (by omega) ⟨_, rfl, Below.refl _ _, os.take kn, h1, by rw [List.length_take]; omega, fun o ho => hs o (List.mem_of_mem_take ho)⟩
     | 9, _ =>
      obtain ⟨ss0, rr0, _⟩ := hw 1 (by omega) (by kernel_rfl)
      have ee0 : v 1 = _ := rr0
      rw [ee0] at ss0
      obtain ⟨ss1, rr1, _⟩ := hw 8 (by omega) (by kernel_rfl)
      obtain ⟨os, ha, hl, hs⟩ : LOs kn (v 8) (lo 8) (hi' 8) w9 := rr1
      refine gw_tt rfl (wanted_plain rfl) 17 36 43 _ _ _ rfl (fun v u w => by go_simp) ss0 ss1 ?_
      with_reducible refine (CAp.out os _ w9 ha hl hs (HT.out.below hb)).mono ?_
      rintro e w3 ⟨o, p, rfl, hp, hg, hb3⟩
      exact ⟨_, rfl, _, rfl, hb3, o, p, rfl, hp, hg⟩
     | 10, _ =>
      obtain ⟨ss0, rr0, _⟩ := hw 9 (by omega) (by kernel_rfl)
      obtain ⟨o, p, e, hp, hg⟩ : LUt (v 9) (lo 9) (hi' 9) w9 := rr0
      rw [e] at ss0
      exact gw_move rfl (wanted_plain rfl) 44 _ rfl ss0 ⟨_, rfl, Below.refl _ _, o, p, rfl, hp, hg⟩
     | 11, _ =>
      obtain ⟨ss0, rr0, _⟩ := hw 10 (by omega) (by kernel_rfl)
      obtain ⟨o, p, e, hp, hg⟩ : LUt (v 10) (lo 10) (hi' 10) w9 := rr0
      rw [e] at ss0
      exact gw_ext0 rfl (wanted_plain rfl) 34 _ _ rfl ss0 ⟨_, rfl, Below.refl _ _, o, p, rfl, hp, hg⟩
     | 12, _ =>
      obtain ⟨ss0, rr0, _⟩ := hw 10 (by omega) (by kernel_rfl)
      obtain ⟨o, p, e, hp, hg⟩ : LUt (v 10) (lo 10) (hi' 10) w9 := rr0
      rw [e] at ss0
      exact gw_ext1 rfl (wanted_plain rfl) 34 _ _ rfl ss0 ⟨_, rfl, Below.refl _ _, rfl⟩
     | 13, _ =>
      exact grow_allocO rfl rfl rfl ⟨_, rfl, Below.alloc (Below.refl _ _) (Nat.le_refl _) _, rfl, heap_alloc_new _ _, by simp⟩
     | k + 14, h => exact absurd h (by omega)
    case stepL =>
     intro i hi hl a w1 w9 v lo hi' hw
     match i, hi with
     | 0, _ => exact absurd hl (by decide)
     | 1, _ => exact absurd hl (by decide)
     | 2, _ => exact absurd hl (by decide)
     | 3, _ => exact absurd hl (by decide)
     | 4, _ => exact absurd hl (by decide)
     | 5, _ => exact absurd hl (by decide)
     | 6, _ => exact absurd hl (by decide)
     | 7, _ => exact absurd hl (by decide)
     | 8, _ => exact absurd hl (by decide)
     | 9, _ => exact absurd hl (by decide)
     | 10, _ => exact absurd hl (by decide)
     | 11, _ => exact absurd hl (by decide)
     | 12, _ =>
      obtain ⟨ss0, rr0⟩ := hw 10 (by omega) (by kernel_rfl)
      obtain ⟨o, p, e, hp, hg⟩ : LUt (v 10) (lo 10) (hi' 10) w1 := rr0
      rw [e] at ss0
      exact gw_ext1 rfl (wanted_plain rfl) 34 _ _ rfl ss0 ⟨_, rfl, rfl, rfl⟩
     | 13, _ => exact absurd hl (by decide)
     | k + 14, h => exact absurd h (by omega)
    case done =>
     intro a w9 v lo hi' o p hgo hdef hsz hoth hb hj hap hv11 kp hv13 B13
     obtain ⟨_, _, hlo13, _⟩ := hj 13 (by omega)
     obtain ⟨_, hv12, _, _⟩ := hj 12 (by omega)
     change v 12 = _ at hv12
     have ha := eq_puts hdef hsz hoth (fun i hi => (hj i hi).1)
     subst ha
     clear hj hoth hdef hsz hap
     have hX := below_setRowO hb hlo13 (cellsO o p).toArray
     have kX := Hd.box kp B13 rfl (cellsO o p).toArray
     have bX := Bx.set (y := (cellsO o p).toArray) B13
     generalize World.setRow w9 (lo 13) (cellsO o p).toArray = X at hX kX bX ⊢
     clear hb kp B13
     simp only [puts, List.getD_cons_zero, List.getD_cons_succ, hv11, hv12, hv13]
     generalize v 0 = v0
     generalize v 1 = v1
     generalize v 2 = v2
     generalize v 3 = v3
     generalize v 4 = v4
     generalize v 5 = v5
     generalize v 6 = v6
     generalize v 7 = v7
     generalize v 8 = v8
     generalize v 9 = v9
     generalize v 10 = v10
     clear hv11 hv12 hv13
     generalize lo 13 = g13 at *
     simp only [Act.put, List.setIfInBounds_toArray, List.set_cons_zero, List.set_cons_succ]
     show wpList _ _ _ [_] _ _
     have hb := hX
     clear hX
     replace HT := qh9 (HT.out.below hb)
     replace HW := qc9 HW hb
     replace BX := qh9 (BX.out.below hb)
     have K1 := qh9 kX
     have B1 := qh9 bX
     clear hb kX bX
     go_wp2_with (first | ((with_reducible refine loadB (.tmp 11) ?_ ?_ ?_ B1.out ?_); rfl; rfl; rfl) | ((with_reducible refine loadG (.tmp 11) ?_ ?_ ?_ B1.out ?_); rfl; rfl; rfl))
     with_reducible refine (CV.out _ _ _ K1.out hgo).mono ?_
     rintro e w7 ⟨rfl, hb⟩
     replace HT := qh9 (HT.out.below hb)
     replace HW := qc9 HW hb
     replace BX := qh9 (BX.out.below hb)
     replace K1 := qh9 (K1.out.below hb)
     replace B1 := qh9 (B1.out.keep hb)
     clear hb
     go_wp2
     go_ret
     exact ⟨rfl, HW.out⟩
end Go.Proofs.YtbffnoodpoagcaaGreatDoor
