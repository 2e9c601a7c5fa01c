import Derived.Test.YtbffnoodpoagcaaGreatDoorAl
import Derived.Test.YtbffnoodpoagcaaGreatDoorG28
import Derived.Test.YtbffnoodpoagcaaGreatDoorG26
import Derived.Test.YtbffnoodpoagcaaGreatDoorG20
namespace Go.Proofs.YtbffnoodpoagcaaGreatDoor
open Go Go.RowKit
set_option linter.unusedVariables false
section
variable {Q : Exit → Act → World → Prop} {ops : Array Oper} {K : Act → World → Prop} {a : Act} {w : World} {i : Nat} {o : Oper}
theorem gw_pickO (ho : ops[i]? = some o) (hw : Region.wanted o (yielded ops a.tmps) = true) (s t : Tmp) (x : Operand) (v : Value) (hop : o.op = Op.pick (.tmp s) x (.tmp t)) (hx : a.tmps[s]? = some (.bool false)) (hy : a.tmps[t]? = some v) (hK : K (a.put o.dst v) w) : wpOp Tryz.prog ops Q i K a w :=
 wpOp_step ho fun K' hK' => by
  rw [if_pos hw]
  unfold Oper.wp
  simp only [execOp, hop]
  go_simp
  exact hK' _ _ hK
end
theorem valueS (i : Nat) (hi : i < 25) (l : List Ob) (v : Value) (w : World) (hv : Ar w l v) (hl : l.length = arB.getD i 0) (hs : ∀ o ∈ l, Sml o) (ht : Tab w) : Calls Tryz.prog 13 #[.string (nmS i), v] w (RetH w (primV i l)) :=
 valueO i hi l v w hv hl (fun o ho => (hs o ho).fine) (fun _ o ho => (hs o ho).ints) (primV_good i l hi hl hs) ht
theorem sml1 {x : Ob} (h : Sml x) : ∀ o ∈ [x], Sml o := fun o ho => by rw [List.mem_singleton] at ho; subst ho; exact h
theorem sml2 {x y : Ob} (h : Sml x) (h' : Sml y) : ∀ o ∈ [x, y], Sml o := fun o ho => by
 rcases List.mem_cons.1 ho with rfl | ho
 · exact h
 · exact sml1 h' o ho
theorem equalH (x y : Ob) (p q : Value) (w : World) (hx : Hd w x p) (hy : Hd w y q) : Calls Tryz.prog 12 #[vO x p, vO y q] w (RetB w (decide (x = y))) := equalO x y p q w (Has w) (In.has w) hx hy
theorem equalNT (p q : Value) (w : World) (hx : Hd w .nil p) (hy : Hd w .t q) : Calls Tryz.prog 12 #[vO .nil p, vO .t q] w (RetB w false) := by
 have h := equalH .nil .t p q w hx hy
 rw [decide_eq_false (show ¬ (Ob.nil = Ob.t) from fun e => by injection e with _ e; exact absurd e (by decide))] at h
 exact h
theorem isNilN (p : Value) (w : World) (hx : Hd w .nil p) : Calls Tryz.prog 29 #[vO .nil p] w (RetB w true) := by
 have h := isNilR .nil p w (Has w) (In.has w) hx
 rw [decide_eq_true rfl] at h
 exact h
set_option maxHeartbeats 16000000 in
set_option maxRecDepth 100000 in
theorem lawConses (r : Rw) (r0 r1 r2 r3 : Value) (s : Rw) (s0 s1 s2 s3 : Value) (w : World) (hrr : RawAt w (Has w) r [r0, r1, r2, r3]) (hrs : RawAt w (Has w) s [s0, s1, s2, s3]) (ht : Tab w) :
 Calls Tryz.prog 6 #[.agg #[r0, r1, r2, r3], .agg #[s0, s1, s2, s3]] w (RetB w true) := by
 have HT := qh9 ht
 clear ht
 have Rr := qh9 hrr
 clear hrr
 have CFr : Hid (∀ W', Below w.heap.size w W' → Calls Tryz.prog 23 #[.agg #[r0, r1, r2, r3], .int .i64 30] W' (fun e w' => e = .returned (.bool (few r 30)) ∧ Below W'.heap.size W' w')) := fun W' h => fewO r [r0, r1, r2, r3] 30 W' (Has w) (In.has w |>.later h.size) (Rr.out.below (In.has w) h) (by decide) (by decide)
 have KOr : Hid (few r 30 = true → ∀ W', Below w.heap.size w W' → Calls Tryz.prog 27 #[.agg #[r0, r1, r2, r3]] W' (RetX W' 200)) := fun hf W' h => by
  obtain ⟨hok, hcn⟩ := few_ok hf
  exact (objectO r [r0, r1, r2, r3] W' (Has w) (In.has w |>.later h.size) (Rr.out.below (In.has w) h) hok (HT.out.below h)).mono fun _ _ hr => hr.le (by omega)
 generalize few r 30 = fr at CFr KOr
 have Rs := qh9 hrs
 clear hrs
 have CFs : Hid (∀ W', Below w.heap.size w W' → Calls Tryz.prog 23 #[.agg #[s0, s1, s2, s3], .int .i64 30] W' (fun e w' => e = .returned (.bool (few s 30)) ∧ Below W'.heap.size W' w')) := fun W' h => fewO s [s0, s1, s2, s3] 30 W' (Has w) (In.has w |>.later h.size) (Rs.out.below (In.has w) h) (by decide) (by decide)
 have KOs : Hid (few s 30 = true → ∀ W', Below w.heap.size w W' → Calls Tryz.prog 27 #[.agg #[s0, s1, s2, s3]] W' (RetX W' 200)) := fun hf W' h => by
  obtain ⟨hok, hcn⟩ := few_ok hf
  exact (objectO s [s0, s1, s2, s3] W' (Has w) (In.has w |>.later h.size) (Rs.out.below (In.has w) h) hok (HT.out.below h)).mono fun _ _ hr => hr.le (by omega)
 generalize few s 30 = fs at CFs KOs
 go_enter Tryz.func6, Tryz.ntmps6
 go_wp2_with fail
 have hBX := Box2.new w #[r0, r1, r2, r3] #[s0, s1, s2, s3]
 generalize ((w.alloc (.cells #[r0, r1, r2, r3] 49)).alloc (.cells #[s0, s1, s2, s3] 49)) = W at hBX ⊢
 have BX := qh9 hBX
 clear hBX
 have FB : Hid (∀ W', Below W.heap.size W W' → Box2 w W' #[r0, r1, r2, r3] #[s0, s1, s2, s3]) := fun W' h => BX.out.below h
 refine (first7 _ (HT.out.below BX.out.bel)).mono ?_
 rintro e w1 ⟨rfl, hb1⟩
 have H1 := qh9 hb1
 clear hb1
 obtain ⟨⟨a0w1, a1w1, a2w1, a3w1⟩, ⟨b0w1, b1w1, b2w1, b3w1⟩⟩ := (FB.out w1 H1.out).cells
 go_wp2_with fail
 clear a0w1 a1w1 a2w1 a3w1 b0w1 b1w1 b2w1 b3w1
 refine (CFr.out w1 (FB.out w1 H1.out).bel).mono ?_
 rintro e w2 ⟨rfl, hb⟩
 have H2 := qc9 H1 hb
 clear hb H1
 cases fr with
 | false =>
  have HE := qh9 (FB.out w2 H2.out).bel
  go_wp2
  all_goals go_ret
  all_goals exact ⟨rfl, HE.out⟩
 | true =>
  obtain ⟨⟨a0w2, a1w2, a2w2, a3w2⟩, ⟨b0w2, b1w2, b2w2, b3w2⟩⟩ := (FB.out w2 H2.out).cells
  go_wp2_with fail
  clear a0w2 a1w2 a2w2 a3w2 b0w2 b1w2 b2w2 b3w2
  refine (CFs.out w2 (FB.out w2 H2.out).bel).mono ?_
  rintro e w3 ⟨rfl, hb⟩
  have H3 := qc9 H2 hb
  clear hb H2
  cases fs with
  | false =>
   have HE := qh9 (FB.out w3 H3.out).bel
   go_wp2
   all_goals go_ret
   all_goals exact ⟨rfl, HE.out⟩
  | true =>
   go_wp2_with fail
   have HC := qh9 (FB.out w3 H3.out)
   refine wp_region_grow (l := _) 6 (by kernel_rfl) (by kernel_rfl) (fun i => [18, 19, 20, 21, 5, 6].getD i 0) (mkR (fun i => [0, 1, 0, 1, 2, 2].getD i 3) (fun i => [.agg #[r0, r1, r2, r3], undef, .agg #[s0, s1, s2, s3], undef].getD i undef) 200) mkR_mono (by
    intro i j hi hj h
    have := inj_getD [18, 19, 20, 21, 5, 6] (by decide) i j hi hj h
    exact this) (by
    intro i hi
    have := lt_getD 73 [18, 19, 20, 21, 5, 6] (by decide) i hi
    exact this) ?step ?done
   case step =>
    intro i hi a w9 v lo hi' hoth hb hw
    have hB := FB.out w9 (chain2 H3.out hb (Nat.le_refl _))
    have sl2 : a.tmps[2]? = some (.pointer (some ⟨w.heap.size, 0, none⟩)) := (hoth 2 (fun j hj => by
     have := ne_getD 2 [18, 19, 20, 21, 5, 6] (by decide) j hj
     exact this)).trans rfl
    have sl3 : a.tmps[3]? = some (.pointer (some ⟨w.heap.size + 1, 0, none⟩)) := (hoth 3 (fun j hj => by
     have := ne_getD 3 [18, 19, 20, 21, 5, 6] (by decide) j hj
     exact this)).trans rfl
    match i, hi with
    | 0, _ =>
     exact grow_load rfl rfl 49 (.tmp 2) rfl (w.heap.size) 0 (eval_of sl2) [r0, r1, r2, r3] _ (World.rangeAt_of_block hB.b0 0 4) Tryz.underlying49 rfl (by kernel_rfl) ⟨_, rfl, Below.refl _ _, rfl⟩
    | 1, _ =>
     obtain ⟨sx, ex, _⟩ := hw 0 (by omega) (by kernel_rfl)
     have e : v 0 = .agg #[r0, r1, r2, r3] := ex
     rw [e] at sx
     refine grow_call1 rfl rfl 27 18 _ rfl _ (fun v w => by go_simp) sx ?_
     refine (KOr.out (by simp) w9 hB.bel).mono ?_
     rintro e w3 ⟨o, p, rfl, hp, hb3, ok⟩
     exact ⟨_, rfl, _, rfl, hb3, o, p, rfl, hp.more (fun b h => by rcases h with h | h; exact h.elim; exact h), ok⟩
    | 2, _ =>
     exact grow_load rfl rfl 49 (.tmp 3) rfl (w.heap.size + 1) 0 (eval_of sl3) [s0, s1, s2, s3] _ (World.rangeAt_of_block hB.b1 0 4) Tryz.underlying49 rfl (by kernel_rfl) ⟨_, rfl, Below.refl _ _, rfl⟩
    | 3, _ =>
     obtain ⟨sx, ex, _⟩ := hw 2 (by omega) (by kernel_rfl)
     have e : v 2 = .agg #[s0, s1, s2, s3] := ex
     rw [e] at sx
     refine grow_call1 rfl rfl 27 20 _ rfl _ (fun v w => by go_simp) sx ?_
     refine (KOs.out (by simp) w9 hB.bel).mono ?_
     rintro e w3 ⟨o, p, rfl, hp, hb3, ok⟩
     exact ⟨_, rfl, _, rfl, hb3, o, p, rfl, hp.more (fun b h => by rcases h with h | h; exact h.elim; exact h), ok⟩
    | 4, _ =>
     exact grow_allocO rfl rfl rfl ⟨_, rfl, Below.alloc (Below.refl _ _) (Nat.le_refl _) _, rfl, heap_alloc_new _ _, by simp⟩
    | 5, _ =>
     exact grow_allocO rfl rfl rfl ⟨_, rfl, Below.alloc (Below.refl _ _) (Nat.le_refl _) _, rfl, heap_alloc_new _ _, by simp⟩
   case done =>
    intro a w9 v lo hi' hdef hsz hoth hb hj hap
    obtain ⟨_, ⟨o0, p0, hv0, hp0, ok0⟩, hlo0, hhi0⟩ := hj 1 (by omega)
    obtain ⟨_, ⟨hw0, hg0, hlt0⟩, hl0, hh0⟩ := hj 4 (by omega)
    obtain ⟨_, ⟨o1, p1, hv1, hp1, ok1⟩, hlo1, hhi1⟩ := hj 3 (by omega)
    obtain ⟨_, ⟨hw1, hg1, hlt1⟩, hl1, hh1⟩ := hj 5 (by omega)
    have k00 := hap 1 4 (by omega) (by omega) (by decide)
    have q01 := hap 4 5 (by omega) (by omega) (by decide)
    have k01 := hap 1 5 (by omega) (by omega) (by decide)
    have k10 := hap 3 4 (by omega) (by omega) (by decide)
    have k11 := hap 3 5 (by omega) (by omega) (by decide)
    have ha := eq_puts hdef hsz hoth (fun i hi => (hj i hi).1)
    have hbel := qh9 ((FB.out w9 (chain2 H3.out hb (Nat.le_refl _))).bel)
    have hwz := hbel.out.size
    have hsb := hb.size
    have hsw := (FB.out w3 H3.out).bel.size
    subst ha
    clear hj hap hoth hdef hsz hb
    simp only [puts, List.getD_cons_zero, List.getD_cons_succ, hv0, hv1, hw0, hw1]
    generalize v 0 = v0
    generalize v 2 = v2
    clear hv0 hv1 hw0 hw1
    generalize lo 4 = g0 at *
    generalize hi' 4 = e0 at *
    generalize lo 1 = l0 at *
    generalize hi' 1 = h0 at *
    generalize lo 5 = g1 at *
    generalize hi' 5 = e1 at *
    generalize lo 3 = l1 at *
    generalize hi' 3 = h1 at *
    simp only [Act.put, List.setIfInBounds_toArray, List.set_cons_zero, List.set_cons_succ]
    show wpList _ _ _ [_, _] _ _
    refine storeV (w1 := w9) rfl (.tmp 5) (.tmp 19) rfl g0 o0 p0 rfl rfl hp0 _ _ hg0 rfl ?_
    refine storeV (w1 := w9) rfl (.tmp 6) (.tmp 21) rfl g1 o1 p1 rfl rfl hp1 _ _ ((setRow_other _ _ _ _ (by omega)).trans hg1) rfl ?_
    have hX := Stored2.new (B := w.heap.size) hg0 hp0 hg1 hp1 (by omega) (by omega) (fun b h => by omega) (fun b h => by omega) (by omega) (fun h => by omega) (fun h => by omega) (fun h => by omega) (fun h => by omega) hbel.out
    generalize (World.setRow (World.setRow w9 g0 (cellsO o0 p0).toArray) g1 (cellsO o1 p1).toArray) = X at hX ⊢
    have HX := qh9 hX
    clear hX hg0 hp0 hg1 hp1
    have HW := qh9 HX.out.bel
    replace HT := qh9 (HT.out.below HW.out)
    have K0 := qh9 (show Hd X o0 p0 from HX.out.q0)
    have K1 := qh9 (show Hd X o1 p1 from HX.out.q1)
    have B5 := qh9 (show Bx X g0 _ from HX.out.h0)
    have B6 := qh9 (show Bx X g1 _ from HX.out.h1)
    have hs0 : Sml o0 := ⟨ok0.1, Nat.le_trans ok0.2 (by decide)⟩
    have hs1 : Sml o1 := ⟨ok1.1, Nat.le_trans ok1.2 (by decide)⟩
    have hsc : Sml (.cons o0 o1) := ⟨⟨ok0.1, ok1.1⟩, by have := ok0.2; have := ok1.2; show 1 + o0.nodes + o1.nodes ≤ 1000; omega⟩
    have CC : Hid (∀ W v, Ar W [o0, o1] v → Tab W → Calls Tryz.prog 13 #[.string ⟨#[99, 111, 110, 115]⟩, v] W (RetH W (.cons o0 o1))) := fun W v hv hT => by
     have h := valueS 2 (by decide) _ v W hv rfl (sml2 hs0 hs1) hT
     exact h
    have C3 : Hid (∀ W v, Ar W [.cons o0 o1] v → Tab W → Calls Tryz.prog 13 #[.string ⟨#[99, 97, 114]⟩, v] W (RetH W (o0))) := fun W v hv hT => by
     have h := valueS 3 (by decide) _ v W hv rfl (sml1 hsc) hT
     exact h
    have C4 : Hid (∀ W v, Ar W [.cons o0 o1] v → Tab W → Calls Tryz.prog 13 #[.string ⟨#[99, 100, 114]⟩, v] W (RetH W (o1))) := fun W v hv hT => by
     have h := valueS 4 (by decide) _ v W hv rfl (sml1 hsc) hT
     exact h
    have C5 : Hid (∀ W v, Ar W [.cons o0 o1] v → Tab W → Calls Tryz.prog 13 #[.string ⟨#[99, 111, 110, 115, 112]⟩, v] W (RetH W (.t))) := fun W v hv hT => by
     have h := valueS 5 (by decide) _ v W hv rfl (sml1 hsc) hT
     exact h
    have D3 : Hid (∀ W v, Ar W [o0] v → Tab W → Calls Tryz.prog 13 #[.string ⟨#[99, 97, 114]⟩, v] W (RetH W (o0.carV))) := fun W v hv hT => by
     have h := valueS 3 (by decide) _ v W hv rfl (sml1 hs0) hT
     exact h
    have D4 : Hid (∀ W v, Ar W [o0] v → Tab W → Calls Tryz.prog 13 #[.string ⟨#[99, 100, 114]⟩, v] W (RetH W (o0.cdrV))) := fun W v hv hT => by
     have h := valueS 4 (by decide) _ v W hv rfl (sml1 hs0) hT
     exact h
    have CE : Hid (∀ (x : Ob) W p q, Hd W x p → Hd W x q → Calls Tryz.prog 12 #[vO x p, vO x q] W (RetB W true)) := fun x W p q h1 h2 => by
     have h := equalH x x p q W h1 h2
     rw [decide_eq_true rfl] at h
     exact h
    have HC : (∃ a d, o0 = .cons a d) ∨ (o0.carV = .nil ∧ o0.cdrV = .nil ∧ primV 5 [o0] = .nil) := by cases o0 <;> first | exact .inl ⟨_, _, rfl⟩ | exact .inr ⟨rfl, rfl, rfl⟩
    have D5 : Hid (∀ W v, Ar W [o0] v → Tab W → Calls Tryz.prog 13 #[.string ⟨#[99, 111, 110, 115, 112]⟩, v] W (RetH W (primV 5 [o0]))) := fun W v hv hT => valueS 5 (by decide) _ v W hv rfl (sml1 hs0) hT
    have DC : Hid (∀ a d, o0 = .cons a d → ∀ W v, Ar W [a, d] v → Tab W → Calls Tryz.prog 13 #[.string ⟨#[99, 111, 110, 115]⟩, v] W (RetH W o0)) := fun a d e W v hv hT => by
     subst e
     have h := valueS 2 (by decide) _ v W hv rfl (sml2 ⟨hs0.1.1, by have : 1 + a.nodes + d.nodes ≤ 1000 := hs0.2; omega⟩ ⟨hs0.1.2, by have : 1 + a.nodes + d.nodes ≤ 1000 := hs0.2; omega⟩) hT
     exact h
    clear HX ok0 ok1 hs0 hs1 hsc hbel
    obtain ⟨x0, x1, x2, x3, x4, x5, ex⟩ := cells7 o0 p0
    obtain ⟨y0, y1, y2, y3, y4, y5, ey⟩ := cells7 o1 p1
    have f5 := B5.out
    rw [ex] at f5
    obtain ⟨c0, c1, c2, c3, c4, c5, c6⟩ := (row7 f5).1
    have f6 := B6.out
    rw [ey] at f6
    obtain ⟨d0, d1, d2, d3, d4, d5, d6⟩ := (row7 f6).1
    go_wp2_with fail
    clear f5 f6 c0 d0 c1 d1 c2 d2 c3 d3 c4 d4 c5 d5 c6 d6
    have hb : Below X.heap.size X (X.alloc (.cells #[x0, x1, x2, x3, x4, x5, p0, y0, y1, y2, y3, y4, y5, p1] 27)) := Below.alloc (Below.refl _ _) (Nat.le_refl _) _
    have hA0 : Ar (X.alloc (.cells #[x0, x1, x2, x3, x4, x5, p0, y0, y1, y2, y3, y4, y5, p1] 27)) [o0, o1] (.slice (some ⟨X.heap.size, 0, none⟩) 2 2) := by
     have h := ar_new2 K0.out K1.out
     rw [ex, ey] at h
     exact h
    generalize X.alloc (.cells #[x0, x1, x2, x3, x4, x5, p0, y0, y1, y2, y3, y4, y5, p1] 27) = Y1 at hb hA0 ⊢
    replace HW := qc9 HW hb
    replace HT := qh9 (HT.out.below hb)
    replace K0 := qh9 (K0.out.below hb)
    replace K1 := qh9 (K1.out.below hb)
    replace B5 := qh9 (B5.out.keep hb)
    replace B6 := qh9 (B6.out.keep hb)
    have HA := qh9 hA0
    clear hb hA0
    with_reducible refine (CC.out _ _ HA.out HT.out).mono ?_
    rintro e w11 ⟨pc, rfl, kc, hb⟩
    replace HW := qc9 HW hb
    replace HT := qh9 (HT.out.below hb)
    replace K0 := qh9 (K0.out.below hb)
    replace K1 := qh9 (K1.out.below hb)
    replace B5 := qh9 (B5.out.keep hb)
    replace B6 := qh9 (B6.out.keep hb)
    clear hb HA
    replace kc := qh9 kc
    have N1 := qh9 (Bx1.new w11 #[.int .i64 0, .string ⟨#[]⟩, .string ⟨#[]⟩, .string ⟨#[]⟩, .string ⟨#[]⟩, .string ⟨#[]⟩, .slice none 0 0])
    go_upto_region 7 with ((with_reducible refine storeB (w1 := w11) (g := w11.heap.size) (b := .cons o0 o1) (p := pc) (.tmp 7) (.tmp 25) ?_ ?_ ?_ ?_ kc.out N1.out.b0 ?_); rfl; rfl; rfl; rfl)
    have Q := Pt1.new (w := w11) (o := .cons o0 o1) (p := pc) (z := #[.int .i64 0, .string ⟨#[]⟩, .string ⟨#[]⟩, .string ⟨#[]⟩, .string ⟨#[]⟩, .string ⟨#[]⟩, .slice none 0 0])
    generalize World.setRow (w11.alloc (.cells #[.int .i64 0, .string ⟨#[]⟩, .string ⟨#[]⟩, .string ⟨#[]⟩, .string ⟨#[]⟩, .string ⟨#[]⟩, .slice none 0 0] 27)) w11.heap.size (cellsO (.cons o0 o1) pc).toArray = X2 at Q ⊢
    have hb := Q.bel
    replace HW := qc9 HW hb
    replace HT := qh9 (HT.out.below hb)
    replace K0 := qh9 (K0.out.below hb)
    replace K1 := qh9 (K1.out.below hb)
    replace B5 := qh9 (B5.out.keep hb)
    replace B6 := qh9 (B6.out.keep hb)
    replace kc := qh9 (kc.out.below hb)
    have B7 := qh9 Q.b0
    clear hb Q N1
    refine wp_region_grow (l := _) 21 (by kernel_rfl) (by kernel_rfl) (fun i => [26, 27, 28, 29, 30, 31, 32, 33, 34, 35, 36, 37, 38, 39, 40, 41, 42, 43, 44, 45, 46].getD i 0) (LR [LV (vO (.cons o0 o1) pc), LAr [.cons o0 o1], LH (o0), LV (vO (o0) p0), LV (.bool true), LV (.bool false), LV (.bool false), LV (vO (.cons o0 o1) pc), LAr [.cons o0 o1], LH (o1), LV (vO (o1) p1), LV (.bool true), LV (.bool false), LV (.bool false), LV (.bool false), LV (vO (.cons o0 o1) pc), LAr [.cons o0 o1], LH (.t), LH (.t), LV (.bool true), LV (.bool false)]) (LR_mono (l := [LV (vO (.cons o0 o1) pc), LAr [.cons o0 o1], LH (o0), LV (vO (o0) p0), LV (.bool true), LV (.bool false), LV (.bool false), LV (vO (.cons o0 o1) pc), LAr [.cons o0 o1], LH (o1), LV (vO (o1) p1), LV (.bool true), LV (.bool false), LV (.bool false), LV (.bool false), LV (vO (.cons o0 o1) pc), LAr [.cons o0 o1], LH (.t), LH (.t), LV (.bool true), LV (.bool false)]) ⟨mLV _, mLAr _, mLH _, mLV _, mLV _, mLV _, mLV _, mLV _, mLAr _, mLH _, mLV _, mLV _, mLV _, mLV _, mLV _, mLV _, mLAr _, mLH _, mLH _, mLV _, mLV _, trivial⟩) (by
     intro i j hi hj h
     exact inj_getD [26, 27, 28, 29, 30, 31, 32, 33, 34, 35, 36, 37, 38, 39, 40, 41, 42, 43, 44, 45, 46] (by decide) i j hi hj h) (by
     intro i hi
     exact lt_getD 73 [26, 27, 28, 29, 30, 31, 32, 33, 34, 35, 36, 37, 38, 39, 40, 41, 42, 43, 44, 45, 46] (by decide) i hi) ?step ?done
    case step =>
     intro i hi a w9 v lo hi' hoth hb hw
     have sl7 : a.tmps[7]? = some (.pointer (some ⟨w11.heap.size, 0, none⟩)) := (hoth 7 (fun j hj => by
      have := ne_getD 7 [26, 27, 28, 29, 30, 31, 32, 33, 34, 35, 36, 37, 38, 39, 40, 41, 42, 43, 44, 45, 46] (by decide) j hj
      exact this)).trans rfl
     have sl5 : a.tmps[5]? = some (.pointer (some ⟨g0, 0, none⟩)) := (hoth 5 (fun j hj => by
      have := ne_getD 5 [26, 27, 28, 29, 30, 31, 32, 33, 34, 35, 36, 37, 38, 39, 40, 41, 42, 43, 44, 45, 46] (by decide) j hj
      exact this)).trans rfl
     have sl6 : a.tmps[6]? = some (.pointer (some ⟨g1, 0, none⟩)) := (hoth 6 (fun j hj => by
      have := ne_getD 6 [26, 27, 28, 29, 30, 31, 32, 33, 34, 35, 36, 37, 38, 39, 40, 41, 42, 43, 44, 45, 46] (by decide) j hj
      exact this)).trans rfl
     match i, hi with
     | 0, _ =>
      exact gw_box rfl (wanted_plain rfl) (.tmp 7) rfl (eval_of sl7) (B7.out.keep hb) ⟨_, rfl, Below.refl _ _, rfl⟩
     | 1, _ =>
      obtain ⟨s0, r0, _⟩ := hw 0 (by omega) (by kernel_rfl)
      have e0 : v 0 = vO (.cons o0 o1) pc := r0
      rw [e0] at s0
      exact gw_bs1 rfl (wanted_plain rfl) 26 rfl s0 ⟨_, rfl, Below.alloc (Below.refl _ _) (Nat.le_refl _) _, ar_new1 (kc.out.below hb)⟩
     | 2, _ =>
      obtain ⟨s1, r1, _⟩ := hw 1 (by omega) (by kernel_rfl)
      have e1 : Ar w9 [.cons o0 o1] (v 1) := r1
      refine gw_ct rfl (wanted_plain rfl) 13 27 _ _ _ rfl (fun v u w => by go_simp) s1 ?_
      with_reducible refine (C3.out w9 _ e1 (HT.out.below hb)).mono ?_
      rintro e w3 ⟨p, rfl, hp, hb3⟩
      exact ⟨_, rfl, _, rfl, hb3, p, rfl, hp⟩
     | 3, _ =>
      exact gw_box rfl (wanted_plain rfl) (.tmp 5) rfl (eval_of sl5) (B5.out.keep hb) ⟨_, rfl, Below.refl _ _, rfl⟩
     | 4, _ =>
      obtain ⟨s0, r0, _⟩ := hw 2 (by omega) (by kernel_rfl)
      obtain ⟨qq0, e0, kk0⟩ : LH (o0) (v 2) (lo 2) (hi' 2) w9 := r0
      rw [e0] at s0
      obtain ⟨s1, r1, _⟩ := hw 3 (by omega) (by kernel_rfl)
      have e1 : v 3 = vO (o0) p0 := r1
      rw [e1] at s1
      refine gw_tt rfl (wanted_plain rfl) 12 28 29 _ _ _ rfl (fun v u w => by go_simp) s0 s1 ?_
      with_reducible refine (CE.out o0 w9 _ _ kk0 (K0.out.below hb)).mono ?_
      rintro e w3 ⟨rfl, hb3⟩
      exact ⟨_, rfl, _, rfl, hb3, rfl⟩
     | 5, _ =>
      obtain ⟨s0, r0, _⟩ := hw 4 (by omega) (by kernel_rfl)
      have e0 : v 4 = .bool true := r0
      rw [e0] at s0
      exact gw_not rfl (wanted_plain rfl) 30 _ _ rfl s0 ⟨_, rfl, Below.refl _ _, rfl⟩
     | 6, _ =>
      obtain ⟨s0, r0, _⟩ := hw 5 (by omega) (by kernel_rfl)
      have e0 : v 5 = .bool false := r0
      rw [e0] at s0
      exact gw_move rfl (wanted_plain rfl) 31 _ rfl s0 ⟨_, rfl, Below.refl _ _, rfl⟩
     | 7, _ =>
      obtain ⟨s9, r9, _⟩ := hw 6 (by omega) (by kernel_rfl)
      have e9 : v 6 = .bool false := r9
      rw [e9] at s9
      exact gw_box rfl (wanted_on rfl rfl rfl s9 rfl) (.tmp 7) rfl (eval_of sl7) (B7.out.keep hb) ⟨_, rfl, Below.refl _ _, rfl⟩
     | 8, _ =>
      obtain ⟨s9, r9, _⟩ := hw 6 (by omega) (by kernel_rfl)
      have e9 : v 6 = .bool false := r9
      rw [e9] at s9
      obtain ⟨s0, r0, _⟩ := hw 7 (by omega) (by kernel_rfl)
      have e0 : v 7 = vO (.cons o0 o1) pc := r0
      rw [e0] at s0
      exact gw_bs1 rfl (wanted_on rfl rfl rfl s9 rfl) 33 rfl s0 ⟨_, rfl, Below.alloc (Below.refl _ _) (Nat.le_refl _) _, ar_new1 (kc.out.below hb)⟩
     | 9, _ =>
      obtain ⟨s9, r9, _⟩ := hw 6 (by omega) (by kernel_rfl)
      have e9 : v 6 = .bool false := r9
      rw [e9] at s9
      obtain ⟨s1, r1, _⟩ := hw 8 (by omega) (by kernel_rfl)
      have e1 : Ar w9 [.cons o0 o1] (v 8) := r1
      refine gw_ct rfl (wanted_on rfl rfl rfl s9 rfl) 13 34 _ _ _ rfl (fun v u w => by go_simp) s1 ?_
      with_reducible refine (C4.out w9 _ e1 (HT.out.below hb)).mono ?_
      rintro e w3 ⟨p, rfl, hp, hb3⟩
      exact ⟨_, rfl, _, rfl, hb3, p, rfl, hp⟩
     | 10, _ =>
      obtain ⟨s9, r9, _⟩ := hw 6 (by omega) (by kernel_rfl)
      have e9 : v 6 = .bool false := r9
      rw [e9] at s9
      exact gw_box rfl (wanted_on rfl rfl rfl s9 rfl) (.tmp 6) rfl (eval_of sl6) (B6.out.keep hb) ⟨_, rfl, Below.refl _ _, rfl⟩
     | 11, _ =>
      obtain ⟨s9, r9, _⟩ := hw 6 (by omega) (by kernel_rfl)
      have e9 : v 6 = .bool false := r9
      rw [e9] at s9
      obtain ⟨s0, r0, _⟩ := hw 9 (by omega) (by kernel_rfl)
      obtain ⟨qq0, e0, kk0⟩ : LH (o1) (v 9) (lo 9) (hi' 9) w9 := r0
      rw [e0] at s0
      obtain ⟨s1, r1, _⟩ := hw 10 (by omega) (by kernel_rfl)
      have e1 : v 10 = vO (o1) p1 := r1
      rw [e1] at s1
      refine gw_tt rfl (wanted_on rfl rfl rfl s9 rfl) 12 35 36 _ _ _ rfl (fun v u w => by go_simp) s0 s1 ?_
      with_reducible refine (CE.out o1 w9 _ _ kk0 (K1.out.below hb)).mono ?_
      rintro e w3 ⟨rfl, hb3⟩
      exact ⟨_, rfl, _, rfl, hb3, rfl⟩
     | 12, _ =>
      obtain ⟨s9, r9, _⟩ := hw 6 (by omega) (by kernel_rfl)
      have e9 : v 6 = .bool false := r9
      rw [e9] at s9
      obtain ⟨s0, r0, _⟩ := hw 11 (by omega) (by kernel_rfl)
      have e0 : v 11 = .bool true := r0
      rw [e0] at s0
      exact gw_not rfl (wanted_on rfl rfl rfl s9 rfl) 37 _ _ rfl s0 ⟨_, rfl, Below.refl _ _, rfl⟩
     | 13, _ =>
      obtain ⟨s0, r0, _⟩ := hw 6 (by omega) (by kernel_rfl)
      have e0 : v 6 = .bool false := r0
      rw [e0] at s0
      obtain ⟨s1, r1, _⟩ := hw 12 (by omega) (by kernel_rfl)
      have e1 : v 12 = .bool false := r1
      rw [e1] at s1
      exact gw_pickO rfl (wanted_plain rfl) 32 38 _ _ rfl s0 s1 ⟨_, rfl, Below.refl _ _, rfl⟩
     | 14, _ =>
      obtain ⟨s0, r0, _⟩ := hw 13 (by omega) (by kernel_rfl)
      have e0 : v 13 = .bool false := r0
      rw [e0] at s0
      exact gw_move rfl (wanted_plain rfl) 39 _ rfl s0 ⟨_, rfl, Below.refl _ _, rfl⟩
     | 15, _ =>
      obtain ⟨s9, r9, _⟩ := hw 14 (by omega) (by kernel_rfl)
      have e9 : v 14 = .bool false := r9
      rw [e9] at s9
      exact gw_box rfl (wanted_on rfl rfl rfl s9 rfl) (.tmp 7) rfl (eval_of sl7) (B7.out.keep hb) ⟨_, rfl, Below.refl _ _, rfl⟩
     | 16, _ =>
      obtain ⟨s9, r9, _⟩ := hw 14 (by omega) (by kernel_rfl)
      have e9 : v 14 = .bool false := r9
      rw [e9] at s9
      obtain ⟨s0, r0, _⟩ := hw 15 (by omega) (by kernel_rfl)
      have e0 : v 15 = vO (.cons o0 o1) pc := r0
      rw [e0] at s0
      exact gw_bs1 rfl (wanted_on rfl rfl rfl s9 rfl) 41 rfl s0 ⟨_, rfl, Below.alloc (Below.refl _ _) (Nat.le_refl _) _, ar_new1 (kc.out.below hb)⟩
     | 17, _ =>
      obtain ⟨s9, r9, _⟩ := hw 14 (by omega) (by kernel_rfl)
      have e9 : v 14 = .bool false := r9
      rw [e9] at s9
      obtain ⟨s1, r1, _⟩ := hw 16 (by omega) (by kernel_rfl)
      have e1 : Ar w9 [.cons o0 o1] (v 16) := r1
      refine gw_ct rfl (wanted_on rfl rfl rfl s9 rfl) 13 42 _ _ _ rfl (fun v u w => by go_simp) s1 ?_
      with_reducible refine (C5.out w9 _ e1 (HT.out.below hb)).mono ?_
      rintro e w3 ⟨p, rfl, hp, hb3⟩
      exact ⟨_, rfl, _, rfl, hb3, p, rfl, hp⟩
     | 18, _ =>
      obtain ⟨s9, r9, _⟩ := hw 14 (by omega) (by kernel_rfl)
      have e9 : v 14 = .bool false := r9
      rw [e9] at s9
      refine gw_0 rfl (wanted_on rfl rfl rfl s9 rfl) 28  _ rfl (fun  w => by go_simp)  ?_
      with_reducible refine (tRH w9).mono ?_
      rintro e w3 ⟨p, rfl, hp, hb3⟩
      exact ⟨_, rfl, _, rfl, hb3, p, rfl, hp⟩
     | 19, _ =>
      obtain ⟨s9, r9, _⟩ := hw 14 (by omega) (by kernel_rfl)
      have e9 : v 14 = .bool false := r9
      rw [e9] at s9
      obtain ⟨s0, r0, _⟩ := hw 17 (by omega) (by kernel_rfl)
      obtain ⟨qq0, e0, kk0⟩ : LH (.t) (v 17) (lo 17) (hi' 17) w9 := r0
      rw [e0] at s0
      obtain ⟨s1, r1, _⟩ := hw 18 (by omega) (by kernel_rfl)
      obtain ⟨qq1, e1, kk1⟩ : LH (.t) (v 18) (lo 18) (hi' 18) w9 := r1
      rw [e1] at s1
      refine gw_tt rfl (wanted_on rfl rfl rfl s9 rfl) 12 43 44 _ _ _ rfl (fun v u w => by go_simp) s0 s1 ?_
      with_reducible refine (CE.out .t w9 _ _ kk0 kk1).mono ?_
      rintro e w3 ⟨rfl, hb3⟩
      exact ⟨_, rfl, _, rfl, hb3, rfl⟩
     | 20, _ =>
      obtain ⟨s9, r9, _⟩ := hw 14 (by omega) (by kernel_rfl)
      have e9 : v 14 = .bool false := r9
      rw [e9] at s9
      obtain ⟨s0, r0, _⟩ := hw 19 (by omega) (by kernel_rfl)
      have e0 : v 19 = .bool true := r0
      rw [e0] at s0
      exact gw_not rfl (wanted_on rfl rfl rfl s9 rfl) 45 _ _ rfl s0 ⟨_, rfl, Below.refl _ _, rfl⟩
     | k + 21, h => exact absurd h (by omega)
    case done =>
     intro a w9 v lo hi' hdef hsz hoth hb hj hap
     obtain ⟨_, hv14, _, _⟩ := hj 14 (by omega)
     obtain ⟨_, hv20, _, _⟩ := hj 20 (by omega)
     have ha := eq_puts hdef hsz hoth (fun i hi => (hj i hi).1)
     subst ha
     clear hj hoth hdef hsz hap
     change v 14 = _ at hv14
     change v 20 = _ at hv20
     simp only [puts, List.getD_cons_zero, List.getD_cons_succ, hv14, hv20]
     generalize v 0 = v0
     generalize v 1 = v1
     generalize v 2 = v2
     generalize v 3 = v3
     generalize v 4 = v4
     generalize v 5 = v5
     generalize v 6 = v6
     generalize v 7 = v7
     generalize v 8 = v8
     generalize v 9 = v9
     generalize v 10 = v10
     generalize v 11 = v11
     generalize v 12 = v12
     generalize v 13 = v13
     generalize v 15 = v15
     generalize v 16 = v16
     generalize v 17 = v17
     generalize v 18 = v18
     generalize v 19 = v19
     clear hv14 hv20
     simp only [Act.put, List.setIfInBounds_toArray, List.set_cons_zero, List.set_cons_succ]
     show wpList _ _ _ [_] _ _
     replace HW := qc9 HW hb
     replace HT := qh9 (HT.out.below hb)
     replace K0 := qh9 (K0.out.below hb)
     replace K1 := qh9 (K1.out.below hb)
     replace B5 := qh9 (B5.out.keep hb)
     replace B6 := qh9 (B6.out.keep hb)
     replace kc := qh9 (kc.out.below hb)
     replace B7 := qh9 (B7.out.keep hb)
     clear hb
     rcases HC with ⟨a0, d0, hcons⟩ | ⟨h3, h4, h5⟩
     · have h5 : primV 5 [o0] = .t := by rw [hcons]; rfl
       have h3 : o0.carV = a0 := by rw [hcons]; rfl
       have h4 : o0.cdrV = d0 := by rw [hcons]; rfl
       replace DC := qh9 (DC.out a0 d0 hcons)
       rw [h5] at D5
       rw [h3] at D3
       rw [h4] at D4
       clear h3 h4 h5 hcons
       have f5 := B5.out
       rw [ex] at f5
       obtain ⟨c0, c1, c2, c3, c4, c5, c6⟩ := (row7 f5).1
       go_wp2_with fail
       clear f5 c0 c1 c2 c3 c4 c5 c6
       have hb : Below w9.heap.size w9 (w9.alloc (.cells #[x0, x1, x2, x3, x4, x5, p0] 27)) := Below.alloc (Below.refl _ _) (Nat.le_refl _) _
       have hA0 : Ar (w9.alloc (.cells #[x0, x1, x2, x3, x4, x5, p0] 27)) [o0] (.slice (some ⟨w9.heap.size, 0, none⟩) 1 1) := by
        have h := ar_new1 K0.out
        rw [ex] at h
        exact h
       generalize w9.alloc (.cells #[x0, x1, x2, x3, x4, x5, p0] 27) = Y2 at hb hA0 ⊢
       replace HW := qc9 HW hb
       replace HT := qh9 (HT.out.below hb)
       replace K0 := qh9 (K0.out.below hb)
       replace K1 := qh9 (K1.out.below hb)
       replace B5 := qh9 (B5.out.keep hb)
       replace B6 := qh9 (B6.out.keep hb)
       replace kc := qh9 (kc.out.below hb)
       replace B7 := qh9 (B7.out.keep hb)
       have HA := qh9 hA0
       clear hb hA0
       with_reducible refine (D5.out _ _ HA.out HT.out).mono ?_
       rintro e w12 ⟨pz, rfl, kz, hb⟩
       replace HW := qc9 HW hb
       replace HT := qh9 (HT.out.below hb)
       replace K0 := qh9 (K0.out.below hb)
       replace K1 := qh9 (K1.out.below hb)
       replace B5 := qh9 (B5.out.keep hb)
       replace B6 := qh9 (B6.out.keep hb)
       replace kc := qh9 (kc.out.below hb)
       replace B7 := qh9 (B7.out.keep hb)
       clear hb
       replace kz := qh9 kz
       clear HA
       go_wp2_with fail
       with_reducible refine (tRH _).mono ?_
       rintro e w13 ⟨pt, rfl, kt, hb⟩
       replace HW := qc9 HW hb
       replace HT := qh9 (HT.out.below hb)
       replace K0 := qh9 (K0.out.below hb)
       replace K1 := qh9 (K1.out.below hb)
       replace B5 := qh9 (B5.out.keep hb)
       replace B6 := qh9 (B6.out.keep hb)
       replace kc := qh9 (kc.out.below hb)
       replace B7 := qh9 (B7.out.keep hb)
       replace kz := qh9 (kz.out.below hb)
       clear hb
       replace kt := qh9 kt
       go_wp2_with fail
       with_reducible refine (CE.out .t _ _ _ kz.out kt.out).mono ?_
       rintro e w14 ⟨rfl, hb⟩
       replace HW := qc9 HW hb
       replace HT := qh9 (HT.out.below hb)
       replace K0 := qh9 (K0.out.below hb)
       replace K1 := qh9 (K1.out.below hb)
       replace B5 := qh9 (B5.out.keep hb)
       replace B6 := qh9 (B6.out.keep hb)
       replace kc := qh9 (kc.out.below hb)
       replace B7 := qh9 (B7.out.keep hb)
       replace kz := qh9 (kz.out.below hb)
       replace kt := qh9 (kt.out.below hb)
       clear hb
       clear kz kt
       go_upto_region 10 with fail
       refine wp_region_grow (l := _) 10 (by kernel_rfl) (by kernel_rfl) (fun i => [53, 54, 55, 56, 57, 58, 59, 60, 61, 62].getD i 0) (LR [LV (vO (o0) p0), LAr [o0], LH (a0), LV (vO (o0) p0), LAr [o0], LH (d0), LAr [a0, d0], LH (o0), LV (vO (o0) p0), LV (.bool true)]) (LR_mono (l := [LV (vO (o0) p0), LAr [o0], LH (a0), LV (vO (o0) p0), LAr [o0], LH (d0), LAr [a0, d0], LH (o0), LV (vO (o0) p0), LV (.bool true)]) ⟨mLV _, mLAr _, mLH _, mLV _, mLAr _, mLH _, mLAr _, mLH _, mLV _, mLV _, trivial⟩) (by
        intro i j hi hj h
        exact inj_getD [53, 54, 55, 56, 57, 58, 59, 60, 61, 62] (by decide) i j hi hj h) (by
        intro i hi
        exact lt_getD 73 [53, 54, 55, 56, 57, 58, 59, 60, 61, 62] (by decide) i hi) ?step ?done
       case step =>
        intro i hi a w9 v lo hi' hoth hb hw
        have sl5 : a.tmps[5]? = some (.pointer (some ⟨g0, 0, none⟩)) := (hoth 5 (fun j hj => by
         have := ne_getD 5 [53, 54, 55, 56, 57, 58, 59, 60, 61, 62] (by decide) j hj
         exact this)).trans rfl
        match i, hi with
        | 0, _ =>
         exact gw_box rfl (wanted_plain rfl) (.tmp 5) rfl (eval_of sl5) (B5.out.keep hb) ⟨_, rfl, Below.refl _ _, rfl⟩
        | 1, _ =>
         obtain ⟨s0, r0, _⟩ := hw 0 (by omega) (by kernel_rfl)
         have e0 : v 0 = vO (o0) p0 := r0
         rw [e0] at s0
         exact gw_bs1 rfl (wanted_plain rfl) 53 rfl s0 ⟨_, rfl, Below.alloc (Below.refl _ _) (Nat.le_refl _) _, ar_new1 (K0.out.below hb)⟩
        | 2, _ =>
         obtain ⟨s1, r1, _⟩ := hw 1 (by omega) (by kernel_rfl)
         have e1 : Ar w9 [o0] (v 1) := r1
         refine gw_ct rfl (wanted_plain rfl) 13 54 _ _ _ rfl (fun v u w => by go_simp) s1 ?_
         with_reducible refine (D3.out w9 _ e1 (HT.out.below hb)).mono ?_
         rintro e w3 ⟨p, rfl, hp, hb3⟩
         exact ⟨_, rfl, _, rfl, hb3, p, rfl, hp⟩
        | 3, _ =>
         exact gw_box rfl (wanted_plain rfl) (.tmp 5) rfl (eval_of sl5) (B5.out.keep hb) ⟨_, rfl, Below.refl _ _, rfl⟩
        | 4, _ =>
         obtain ⟨s0, r0, _⟩ := hw 3 (by omega) (by kernel_rfl)
         have e0 : v 3 = vO (o0) p0 := r0
         rw [e0] at s0
         exact gw_bs1 rfl (wanted_plain rfl) 56 rfl s0 ⟨_, rfl, Below.alloc (Below.refl _ _) (Nat.le_refl _) _, ar_new1 (K0.out.below hb)⟩
        | 5, _ =>
         obtain ⟨s1, r1, _⟩ := hw 4 (by omega) (by kernel_rfl)
         have e1 : Ar w9 [o0] (v 4) := r1
         refine gw_ct rfl (wanted_plain rfl) 13 57 _ _ _ rfl (fun v u w => by go_simp) s1 ?_
         with_reducible refine (D4.out w9 _ e1 (HT.out.below hb)).mono ?_
         rintro e w3 ⟨p, rfl, hp, hb3⟩
         exact ⟨_, rfl, _, rfl, hb3, p, rfl, hp⟩
        | 6, _ =>
         obtain ⟨s0, r0, _⟩ := hw 2 (by omega) (by kernel_rfl)
         obtain ⟨qq0, e0, kk0⟩ : LH (a0) (v 2) (lo 2) (hi' 2) w9 := r0
         rw [e0] at s0
         obtain ⟨s1, r1, _⟩ := hw 5 (by omega) (by kernel_rfl)
         obtain ⟨qq1, e1, kk1⟩ : LH (d0) (v 5) (lo 5) (hi' 5) w9 := r1
         rw [e1] at s1
         exact gw_bs2 rfl (wanted_plain rfl) 55 58 rfl s0 s1 ⟨_, rfl, Below.alloc (Below.refl _ _) (Nat.le_refl _) _, ar_new2 kk0 kk1⟩
        | 7, _ =>
         obtain ⟨s1, r1, _⟩ := hw 6 (by omega) (by kernel_rfl)
         have e1 : Ar w9 [a0, d0] (v 6) := r1
         refine gw_ct rfl (wanted_plain rfl) 13 59 _ _ _ rfl (fun v u w => by go_simp) s1 ?_
         with_reducible refine (DC.out w9 _ e1 (HT.out.below hb)).mono ?_
         rintro e w3 ⟨p, rfl, hp, hb3⟩
         exact ⟨_, rfl, _, rfl, hb3, p, rfl, hp⟩
        | 8, _ =>
         exact gw_box rfl (wanted_plain rfl) (.tmp 5) rfl (eval_of sl5) (B5.out.keep hb) ⟨_, rfl, Below.refl _ _, rfl⟩
        | 9, _ =>
         obtain ⟨s0, r0, _⟩ := hw 7 (by omega) (by kernel_rfl)
         obtain ⟨qq0, e0, kk0⟩ : LH (o0) (v 7) (lo 7) (hi' 7) w9 := r0
         rw [e0] at s0
         obtain ⟨s1, r1, _⟩ := hw 8 (by omega) (by kernel_rfl)
         have e1 : v 8 = vO (o0) p0 := r1
         rw [e1] at s1
         refine gw_tt rfl (wanted_plain rfl) 12 60 61 _ _ _ rfl (fun v u w => by go_simp) s0 s1 ?_
         with_reducible refine (CE.out o0 w9 _ _ kk0 (K0.out.below hb)).mono ?_
         rintro e w3 ⟨rfl, hb3⟩
         exact ⟨_, rfl, _, rfl, hb3, rfl⟩
       case done =>
        intro a w9 v lo hi' hdef hsz hoth hb hj hap
        obtain ⟨_, hv9, _, _⟩ := hj 9 (by omega)
        have ha := eq_puts hdef hsz hoth (fun i hi => (hj i hi).1)
        subst ha
        clear hj hoth hdef hsz hap
        change v 9 = _ at hv9
        simp only [puts, List.getD_cons_zero, List.getD_cons_succ, hv9]
        generalize v 0 = v0
        generalize v 1 = v1
        generalize v 2 = v2
        generalize v 3 = v3
        generalize v 4 = v4
        generalize v 5 = v5
        generalize v 6 = v6
        generalize v 7 = v7
        generalize v 8 = v8
        clear hv9
        simp only [Act.put, List.setIfInBounds_toArray, List.set_cons_zero, List.set_cons_succ]
        show wpList _ _ _ [_] _ _
        replace HW := qc9 HW hb
        replace HT := qh9 (HT.out.below hb)
        replace K0 := qh9 (K0.out.below hb)
        replace K1 := qh9 (K1.out.below hb)
        replace B5 := qh9 (B5.out.keep hb)
        replace B6 := qh9 (B6.out.keep hb)
        replace kc := qh9 (kc.out.below hb)
        replace B7 := qh9 (B7.out.keep hb)
        clear hb
        go_wp2
        go_ret
        exact ⟨rfl, HW.out⟩
     · rw [h5] at D5
       rw [h3] at D3
       rw [h4] at D4
       clear h3 h4 h5
       have f5 := B5.out
       rw [ex] at f5
       obtain ⟨c0, c1, c2, c3, c4, c5, c6⟩ := (row7 f5).1
       go_wp2_with fail
       clear f5 c0 c1 c2 c3 c4 c5 c6
       have hb : Below w9.heap.size w9 (w9.alloc (.cells #[x0, x1, x2, x3, x4, x5, p0] 27)) := Below.alloc (Below.refl _ _) (Nat.le_refl _) _
       have hA0 : Ar (w9.alloc (.cells #[x0, x1, x2, x3, x4, x5, p0] 27)) [o0] (.slice (some ⟨w9.heap.size, 0, none⟩) 1 1) := by
        have h := ar_new1 K0.out
        rw [ex] at h
        exact h
       generalize w9.alloc (.cells #[x0, x1, x2, x3, x4, x5, p0] 27) = Y2 at hb hA0 ⊢
       replace HW := qc9 HW hb
       replace HT := qh9 (HT.out.below hb)
       replace K0 := qh9 (K0.out.below hb)
       replace K1 := qh9 (K1.out.below hb)
       replace B5 := qh9 (B5.out.keep hb)
       replace B6 := qh9 (B6.out.keep hb)
       replace kc := qh9 (kc.out.below hb)
       replace B7 := qh9 (B7.out.keep hb)
       have HA := qh9 hA0
       clear hb hA0
       with_reducible refine (D5.out _ _ HA.out HT.out).mono ?_
       rintro e w12 ⟨pz, rfl, kz, hb⟩
       replace HW := qc9 HW hb
       replace HT := qh9 (HT.out.below hb)
       replace K0 := qh9 (K0.out.below hb)
       replace K1 := qh9 (K1.out.below hb)
       replace B5 := qh9 (B5.out.keep hb)
       replace B6 := qh9 (B6.out.keep hb)
       replace kc := qh9 (kc.out.below hb)
       replace B7 := qh9 (B7.out.keep hb)
       clear hb
       replace kz := qh9 kz
       clear HA
       go_wp2_with fail
       with_reducible refine (tRH _).mono ?_
       rintro e w13 ⟨pt, rfl, kt, hb⟩
       replace HW := qc9 HW hb
       replace HT := qh9 (HT.out.below hb)
       replace K0 := qh9 (K0.out.below hb)
       replace K1 := qh9 (K1.out.below hb)
       replace B5 := qh9 (B5.out.keep hb)
       replace B6 := qh9 (B6.out.keep hb)
       replace kc := qh9 (kc.out.below hb)
       replace B7 := qh9 (B7.out.keep hb)
       replace kz := qh9 (kz.out.below hb)
       clear hb
       replace kt := qh9 kt
       go_wp2_with fail
       with_reducible refine (equalNT _ _ _ kz.out kt.out).mono ?_
       rintro e w14 ⟨rfl, hb⟩
       replace HW := qc9 HW hb
       replace HT := qh9 (HT.out.below hb)
       replace K0 := qh9 (K0.out.below hb)
       replace K1 := qh9 (K1.out.below hb)
       replace B5 := qh9 (B5.out.keep hb)
       replace B6 := qh9 (B6.out.keep hb)
       replace kc := qh9 (kc.out.below hb)
       replace B7 := qh9 (B7.out.keep hb)
       replace kz := qh9 (kz.out.below hb)
       replace kt := qh9 (kt.out.below hb)
       clear hb
       clear kz kt
       have f5 := B5.out
       rw [ex] at f5
       obtain ⟨c0, c1, c2, c3, c4, c5, c6⟩ := (row7 f5).1
       go_wp2_with fail
       clear f5 c0 c1 c2 c3 c4 c5 c6
       have hb : Below w14.heap.size w14 (w14.alloc (.cells #[x0, x1, x2, x3, x4, x5, p0] 27)) := Below.alloc (Below.refl _ _) (Nat.le_refl _) _
       have hA0 : Ar (w14.alloc (.cells #[x0, x1, x2, x3, x4, x5, p0] 27)) [o0] (.slice (some ⟨w14.heap.size, 0, none⟩) 1 1) := by
        have h := ar_new1 K0.out
        rw [ex] at h
        exact h
       generalize w14.alloc (.cells #[x0, x1, x2, x3, x4, x5, p0] 27) = Y3 at hb hA0 ⊢
       replace HW := qc9 HW hb
       replace HT := qh9 (HT.out.below hb)
       replace K0 := qh9 (K0.out.below hb)
       replace K1 := qh9 (K1.out.below hb)
       replace B5 := qh9 (B5.out.keep hb)
       replace B6 := qh9 (B6.out.keep hb)
       replace kc := qh9 (kc.out.below hb)
       replace B7 := qh9 (B7.out.keep hb)
       have HA := qh9 hA0
       clear hb hA0
       with_reducible refine (D3.out _ _ HA.out HT.out).mono ?_
       rintro e w15 ⟨pz, rfl, kz, hb⟩
       replace HW := qc9 HW hb
       replace HT := qh9 (HT.out.below hb)
       replace K0 := qh9 (K0.out.below hb)
       replace K1 := qh9 (K1.out.below hb)
       replace B5 := qh9 (B5.out.keep hb)
       replace B6 := qh9 (B6.out.keep hb)
       replace kc := qh9 (kc.out.below hb)
       replace B7 := qh9 (B7.out.keep hb)
       clear hb
       replace kz := qh9 kz
       clear HA
       go_wp2_with fail
       with_reducible refine (isNilN _ _ kz.out).mono ?_
       rintro e w16 ⟨rfl, hb⟩
       replace HW := qc9 HW hb
       replace HT := qh9 (HT.out.below hb)
       replace K0 := qh9 (K0.out.below hb)
       replace K1 := qh9 (K1.out.below hb)
       replace B5 := qh9 (B5.out.keep hb)
       replace B6 := qh9 (B6.out.keep hb)
       replace kc := qh9 (kc.out.below hb)
       replace B7 := qh9 (B7.out.keep hb)
       replace kz := qh9 (kz.out.below hb)
       clear hb
       clear kz
       have f5 := B5.out
       rw [ex] at f5
       obtain ⟨c0, c1, c2, c3, c4, c5, c6⟩ := (row7 f5).1
       go_wp2_with fail
       clear f5 c0 c1 c2 c3 c4 c5 c6
       have hb : Below w16.heap.size w16 (w16.alloc (.cells #[x0, x1, x2, x3, x4, x5, p0] 27)) := Below.alloc (Below.refl _ _) (Nat.le_refl _) _
       have hA0 : Ar (w16.alloc (.cells #[x0, x1, x2, x3, x4, x5, p0] 27)) [o0] (.slice (some ⟨w16.heap.size, 0, none⟩) 1 1) := by
        have h := ar_new1 K0.out
        rw [ex] at h
        exact h
       generalize w16.alloc (.cells #[x0, x1, x2, x3, x4, x5, p0] 27) = Y4 at hb hA0 ⊢
       replace HW := qc9 HW hb
       replace HT := qh9 (HT.out.below hb)
       replace K0 := qh9 (K0.out.below hb)
       replace K1 := qh9 (K1.out.below hb)
       replace B5 := qh9 (B5.out.keep hb)
       replace B6 := qh9 (B6.out.keep hb)
       replace kc := qh9 (kc.out.below hb)
       replace B7 := qh9 (B7.out.keep hb)
       have HA := qh9 hA0
       clear hb hA0
       with_reducible refine (D4.out _ _ HA.out HT.out).mono ?_
       rintro e w17 ⟨pz, rfl, kz, hb⟩
       replace HW := qc9 HW hb
       replace HT := qh9 (HT.out.below hb)
       replace K0 := qh9 (K0.out.below hb)
       replace K1 := qh9 (K1.out.below hb)
       replace B5 := qh9 (B5.out.keep hb)
       replace B6 := qh9 (B6.out.keep hb)
       replace kc := qh9 (kc.out.below hb)
       replace B7 := qh9 (B7.out.keep hb)
       clear hb
       replace kz := qh9 kz
       clear HA
       go_wp2_with fail
       with_reducible refine (isNilN _ _ kz.out).mono ?_
       rintro e w18 ⟨rfl, hb⟩
       replace HW := qc9 HW hb
       replace HT := qh9 (HT.out.below hb)
       replace K0 := qh9 (K0.out.below hb)
       replace K1 := qh9 (K1.out.below hb)
       replace B5 := qh9 (B5.out.keep hb)
       replace B6 := qh9 (B6.out.keep hb)
       replace kc := qh9 (kc.out.below hb)
       replace B7 := qh9 (B7.out.keep hb)
       replace kz := qh9 (kz.out.below hb)
       clear hb
       go_wp2
       go_ret
       exact ⟨rfl, HW.out⟩
end Go.Proofs.YtbffnoodpoagcaaGreatDoor
