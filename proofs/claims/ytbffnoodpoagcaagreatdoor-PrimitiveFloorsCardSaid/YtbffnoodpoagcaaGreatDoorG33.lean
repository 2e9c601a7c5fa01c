import Derived.Test.YtbffnoodpoagcaaGreatDoorAl
import Derived.Test.YtbffnoodpoagcaaGreatDoorG28
import Derived.Test.YtbffnoodpoagcaaGreatDoorG31
namespace Go.Proofs.YtbffnoodpoagcaaGreatDoor
open Go Go.RowKit
set_option linter.unusedVariables false
theorem flo_le (q : Rat) : ((q.num / (q.den : Int) : Int) : Rat) ≤ q := by
 rw [Rat.le_iff, Rat.num_intCast, Rat.den_intCast]
 have h := Int.ediv_mul_le q.num (b := (q.den : Int)) (by have := q.den_nz; omega)
 simpa using h
theorem lt_flo (q : Rat) : q < 1 + ((q.num / (q.den : Int) : Int) : Rat) := by
 have e : (1 : Rat) + ((q.num / (q.den : Int) : Int) : Rat) = ((1 + q.num / (q.den : Int) : Int) : Rat) := by rw [Rat.intCast_add]; rfl
 rw [e, Rat.lt_iff, Rat.num_intCast, Rat.den_intCast]
 have h := Int.lt_ediv_add_one_mul_self q.num (b := (q.den : Int)) (by have := q.den_nz; omega)
 rw [Int.add_comm 1]
 simpa using h
theorem flo1 (x : Ob) : primV 14 [x, inO (x.fix.num / (x.fix.den : Int))] = .nil := by
 show trO (decide (ordQ x.fix ((x.fix.num / (x.fix.den : Int) : Int) : Rat) < 0)) = .nil
 have h := flo_le x.fix
 have h2 : ¬ ordQ x.fix ((x.fix.num / (x.fix.den : Int) : Int) : Rat) < 0 := by
  unfold ordQ
  rw [if_neg (Rat.not_lt.2 h)]
  split <;> decide
 rw [decide_eq_false h2]
 rfl
theorem flo2 (x : Ob) : primV 14 [x, .num (1 + ((x.fix.num / (x.fix.den : Int) : Int) : Rat))] = .t := by
 show trO (decide (ordQ x.fix (1 + ((x.fix.num / (x.fix.den : Int) : Int) : Rat)) < 0)) = .t
 have h2 : ordQ x.fix (1 + ((x.fix.num / (x.fix.den : Int) : Int) : Rat)) < 0 := by
  unfold ordQ
  rw [if_pos (lt_flo x.fix)]
  decide
 rw [decide_eq_true h2]
 rfl
theorem quo1 (q : Rat) : (q.num : Rat) * ((q.den : Int) : Rat)⁻¹ = q := by
 have h := Rat.num_divInt_den q
 rw [← Rat.div_def]
 rw [← Rat.divInt_eq_div]
 exact h
theorem isInt_in (n : Int) : (inO n).isInt = true := by
 show decide ((n : Rat).den = 1) = true
 rw [Rat.den_intCast]; rfl
theorem sml_in {n : Int} (h : n.natAbs < 10 ^ 10) : Sml (inO n) := ⟨bd_int (k := 10) h (by decide), by show 1 ≤ 1000; decide⟩
theorem sml_num {q : Rat} (h : Bd 10 q) : Sml (.num q) := ⟨h, by show 1 ≤ 1000; decide⟩
theorem flo_abs (q : Rat) (h : q.num.natAbs < 10 ^ 10) : (q.num / (q.den : Int)).natAbs < 10 ^ 10 := by
 have := Int.natAbs_ediv_le_natAbs q.num (q.den : Int)
 omega
theorem valueF (i : Nat) (hi : i < 25) (l : List Ob) (v : Value) (w : World) (hv : Ar w l v) (hl : l.length = arB.getD i 0) (hs : ∀ o ∈ l, Fine o) (hI : ¬ (i = 23 ∨ i = 24)) (hg : Good (primV i l)) (ht : Tab w) : Calls Tryz.prog 13 #[.string (nmS i), v] w (RetH w (primV i l)) :=
 valueO i hi l v w hv hl hs (fun h => absurd h hI) hg ht
set_option maxHeartbeats 16000000 in
set_option maxRecDepth 100000 in
theorem lawFloors (r : Rw) (r0 r1 r2 r3 : Value) (w : World) (hrr : RawAt w (Has w) r [r0, r1, r2, r3]) (ht : Tab w) :
 Calls Tryz.prog 7 #[.agg #[r0, r1, r2, r3]] w (RetB w true) := by
 have CF : Hid (∀ W', Below w.heap.size w W' → Calls Tryz.prog 23 #[.agg #[r0, r1, r2, r3], .int .i64 10] W' (RetB W' (few r 10))) := fun W' h => fewO r [r0, r1, r2, r3] 10 W' (Has w) (In.has w |>.later h.size) (hrr.below (In.has w) h) (by decide) (by decide)
 have KO : Hid (few r 10 = true → ∀ W', Below w.heap.size w W' → Tab W' → Calls Tryz.prog 27 #[.agg #[r0, r1, r2, r3]] W' (fun e w' => ∃ o p, e = .returned (vO o p) ∧ Hd w' o p ∧ Sml o ∧ Below W'.heap.size W' w')) := fun hf W' h hT => by
  obtain ⟨hok, hcn⟩ := few_ok hf
  exact (objectO r [r0, r1, r2, r3] W' (Has w) (In.has w |>.later h.size) (hrr.below (In.has w) h) hok hT).mono fun e w' hr => by
   obtain ⟨o, p, h1, h2, h3, h4⟩ := hr
   exact ⟨o, p, h1, h2.hd ((NoB.in _).upto h3.size), ⟨h4.1, Nat.le_trans h4.2 (by omega)⟩, h3⟩
 generalize few r 10 = fr at CF KO
 have HT := qh9 ht
 clear ht hrr
 go_enter Tryz.func7, Tryz.ntmps7
 go_upto_region 1 with fail
 have hb : Below w.heap.size w (w.alloc (.cells #[r0, r1, r2, r3] 49)) := Below.alloc (Below.refl _ _) (Nat.le_refl _) _
 have hg0 := heap_alloc_new w (.cells #[r0, r1, r2, r3] 49)
 generalize w.alloc (.cells #[r0, r1, r2, r3] 49) = W at hb hg0 ⊢
 have HW := qh9 hb
 replace HT := qh9 (HT.out.below hb)
 have FR : Hid (∀ X', Below W.heap.size W X' → X'.cell? ⟨w.heap.size, 0, none⟩ = some r0 ∧ X'.cell? ⟨w.heap.size, 1, none⟩ = some r1 ∧ X'.cell? ⟨w.heap.size, 2, none⟩ = some r2 ∧ X'.cell? ⟨w.heap.size, 3, none⟩ = some r3) := fun X' h => by
  have f := (h.block _ (lt_of_heap hg0)).trans hg0
  refine ⟨?_, ?_, ?_, ?_⟩ <;> (rw [cell_of_row _ _ _ _ _ _ f]; rfl)
 have HX := qh9 (Below.refl W.heap.size W)
 clear hb hg0
 go_wp2_with fail
 with_reducible refine (first7 _ HT.out).mono ?_
 rintro e w1 ⟨rfl, hb⟩
 replace HT := qh9 (HT.out.below hb)
 replace HW := qc9 HW hb
 replace HX := qc9 HX hb
 clear hb
 obtain ⟨z0, z1, z2, z3⟩ := FR.out _ HX.out
 go_wp2_with fail
 clear z0 z1 z2 z3
 with_reducible refine (CF.out _ HW.out).mono ?_
 rintro e w2 ⟨rfl, hb⟩
 replace HT := qh9 (HT.out.below hb)
 replace HW := qc9 HW hb
 replace HX := qc9 HX hb
 clear hb
 cases fr with
 | false =>
  go_wp2
  all_goals go_ret
  all_goals exact ⟨rfl, HW.out⟩
 | true =>
  obtain ⟨z0, z1, z2, z3⟩ := FR.out _ HX.out
  go_wp2_with fail
  clear z0 z1 z2 z3
  with_reducible refine (KO.out (by simp) _ HW.out HT.out).mono ?_
  rintro e w3 ⟨o0, p0, rfl, k0, hs0, hb⟩
  replace HT := qh9 (HT.out.below hb)
  replace HW := qc9 HW hb
  replace HX := qc9 HX hb
  clear hb CF KO
  replace k0 := qh9 k0
  have N1 := qh9 (Bx1.new w3 #[.int .i64 0, .string ⟨#[]⟩, .string ⟨#[]⟩, .string ⟨#[]⟩, .string ⟨#[]⟩, .string ⟨#[]⟩, .slice none 0 0])
  go_upto_region 6 with ((with_reducible refine storeB (w1 := w3) (g := w3.heap.size) (b := o0) (p := p0) (.tmp 3) (.tmp 14) ?_ ?_ ?_ ?_ k0.out N1.out.b0 ?_); rfl; rfl; rfl; rfl)
  have Q := Pt1.new (w := w3) (o := o0) (p := p0) (z := #[.int .i64 0, .string ⟨#[]⟩, .string ⟨#[]⟩, .string ⟨#[]⟩, .string ⟨#[]⟩, .string ⟨#[]⟩, .slice none 0 0])
  generalize World.setRow (w3.alloc (.cells #[.int .i64 0, .string ⟨#[]⟩, .string ⟨#[]⟩, .string ⟨#[]⟩, .string ⟨#[]⟩, .string ⟨#[]⟩, .slice none 0 0] 27)) w3.heap.size (cellsO (o0) p0).toArray = X3 at Q ⊢
  have hb := Q.bel
  replace HT := qh9 (HT.out.below hb)
  replace HW := qc9 HW hb
  replace HX := qc9 HX hb
  replace k0 := qh9 (k0.out.below hb)
  have B3 := qh9 Q.b0
  clear hb Q N1
  clear FR HX
  have hq : Bd 10 o0.fix := bfix hs0
  have hm1 : Sml (inO 1) := sml_in (by decide)
  have hm0 : Sml (inO 0) := sml_in (by decide)
  have hfl : Sml (inO (o0.fix.num / (o0.fix.den : Int))) := sml_in (flo_abs _ hq.1)
  have hnu : Sml (inO o0.fix.num) := sml_in hq.1
  have hde : Sml (inO o0.fix.den) := sml_in (by have := hq.2; simpa using this)
  have VF : Hid (∀ W v, Ar W [o0] v → Tab W → Calls Tryz.prog 13 #[.string ⟨#[102, 108, 111, 111, 114]⟩, v] W (RetH W (inO (o0.fix.num / (o0.fix.den : Int))))) := fun W v hv hT => by
   have h := valueS 17 (by decide) _ v W hv rfl (sml1 hs0) hT
   skip
   exact h
  have VN : Hid (∀ W v, Ar W [inO 1, inO (o0.fix.num / (o0.fix.den : Int))] v → Tab W → Calls Tryz.prog 13 #[.string ⟨#[98, 105, 110, 97, 114, 121, 45, 43]⟩, v] W (RetH W (Ob.num (1 + ((o0.fix.num / (o0.fix.den : Int) : Int) : Rat))))) := fun W v hv hT => by
   have h := valueS 10 (by decide) _ v W hv rfl (sml2 hm1 hfl) hT
   skip
   exact h
  have Vnum : Hid (∀ W v, Ar W [o0] v → Tab W → Calls Tryz.prog 13 #[.string ⟨#[110, 117, 109, 101, 114, 97, 116, 111, 114]⟩, v] W (RetH W (inO o0.fix.num))) := fun W v hv hT => by
   have h := valueS 15 (by decide) _ v W hv rfl (sml1 hs0) hT
   skip
   exact h
  have Vden : Hid (∀ W v, Ar W [o0] v → Tab W → Calls Tryz.prog 13 #[.string ⟨#[100, 101, 110, 111, 109, 105, 110, 97, 116, 111, 114]⟩, v] W (RetH W (inO o0.fix.den))) := fun W v hv hT => by
   have h := valueS 16 (by decide) _ v W hv rfl (sml1 hs0) hT
   skip
   exact h
  have hiv : Sml (.num (((o0.fix.den : Int) : Rat)⁻¹)) := sml_num (bd_inv (bd_int (k := 10) (n := (o0.fix.den : Int)) (by have := hq.2; simpa using this) (by decide)) (by decide))
  have Vinv : Hid (∀ W v, Ar W [inO o0.fix.den] v → Tab W → Calls Tryz.prog 13 #[.string ⟨#[117, 110, 97, 114, 121, 45, 47]⟩, v] W (RetH W (.num (((o0.fix.den : Int) : Rat)⁻¹)))) := fun W v hv hT => by
   have h := valueS 13 (by decide) _ v W hv rfl (sml1 hde) hT
   skip
   exact h
  have Vmul : Hid (∀ W v, Ar W [inO o0.fix.num, .num (((o0.fix.den : Int) : Rat)⁻¹)] v → Tab W → Calls Tryz.prog 13 #[.string ⟨#[98, 105, 110, 97, 114, 121, 45, 42]⟩, v] W (RetH W (.num o0.fix))) := fun W v hv hT => by
   have h := valueS 11 (by decide) _ v W hv rfl (sml2 hnu hiv) hT
   rw [show primV 11 [inO o0.fix.num, .num (((o0.fix.den : Int) : Rat)⁻¹)] = .num o0.fix from congrArg Ob.num (quo1 o0.fix)] at h
   exact h
  have Vad : Hid (∀ W v, Ar W [inO 0, o0] v → Tab W → Calls Tryz.prog 13 #[.string ⟨#[98, 105, 110, 97, 114, 121, 45, 43]⟩, v] W (RetH W (.num o0.fix))) := fun W v hv hT => by
   have h := valueS 10 (by decide) _ v W hv rfl (sml2 hm0 hs0) hT
   rw [show primV 10 [inO 0, o0] = .num o0.fix from congrArg Ob.num (Rat.zero_add o0.fix)] at h
   exact h
  have VL1 : Hid (∀ W v, Ar W [o0, inO (o0.fix.num / (o0.fix.den : Int))] v → Tab W → Calls Tryz.prog 13 #[.string ⟨#[60]⟩, v] W (RetH W .nil)) := fun W v hv hT => by
   have h := valueS 14 (by decide) _ v W hv rfl (sml2 hs0 hfl) hT
   rw [flo1] at h
   exact h
  have VL2 : Hid (∀ W v, Ar W [o0, Ob.num (1 + ((o0.fix.num / (o0.fix.den : Int) : Int) : Rat))] v → Tab W → Calls Tryz.prog 13 #[.string ⟨#[60]⟩, v] W (RetH W .t)) := fun W v hv hT => by
   have hnx : Fine (Ob.num (1 + ((o0.fix.num / (o0.fix.den : Int) : Int) : Rat))) := ⟨(bd_add (bd_int (k := 10) (n := 1) (by decide) (by decide)) (bd_int (k := 10) (flo_abs _ hq.1) (by decide))).more (by decide), by show 1 ≤ 1000; decide⟩
   have h := valueF 14 (by decide) _ v W hv rfl (fun o ho => by
    rcases List.mem_cons.1 ho with rfl | ho
    · exact hs0.fine
    · rw [List.mem_singleton] at ho; subst ho; exact hnx) (by decide) (by rw [flo2]; exact good_t) hT
   rw [flo2] at h
   exact h
  have CI0 : Hid (∀ W, Tab W → Calls Tryz.prog 10 #[.int .i64 0] W (RetH W (inO 0))) := fun W hT => intRH 0 W (i64_small (by decide)) hT
  have CI1 : Hid (∀ W, Tab W → Calls Tryz.prog 10 #[.int .i64 1] W (RetH W (inO 1))) := fun W hT => intRH 1 W (i64_small (by decide)) hT
  have CII : Hid (∀ p W, Calls Tryz.prog 30 #[vO (inO (o0.fix.num / (o0.fix.den : Int))) p] W (RetB W true)) := fun p W => by
   have h := isIntegerR (inO (o0.fix.num / (o0.fix.den : Int))) p W
   rw [isInt_in] at h
   exact h
  have CE : Hid (∀ (x : Ob) W p q, Hd W x p → Hd W x q → Calls Tryz.prog 12 #[vO x p, vO x q] W (RetB W true)) := fun x W p q h1 h2 => by
   have h := equalH x x p q W h1 h2
   rw [decide_eq_true rfl] at h
   exact h
  clear hq hm1 hm0 hfl hnu hde hiv hs0
  generalize Ob.num (1 + ((o0.fix.num / (o0.fix.den : Int) : Int) : Rat)) = nx at *
  generalize inO (o0.fix.num / (o0.fix.den : Int)) = fl at *
  generalize Ob.num o0.fix = qq at *
  generalize Ob.num (((o0.fix.den : Int) : Rat)⁻¹) = iv at *
  generalize inO o0.fix.num = nu at *
  generalize inO o0.fix.den = de at *
  generalize inO 1 = i1 at *
  generalize inO 0 = i0 at *
  obtain ⟨x0, x1, x2, x3, x4, x5, ex⟩ := cells7 o0 p0
  have fx := B3.out
  rw [ex] at fx
  obtain ⟨c0, c1, c2, c3, c4, c5, c6⟩ := (row7 fx).1
  go_wp2_with fail
  clear fx c0 c1 c2 c3 c4 c5 c6
  have hb : Below X3.heap.size X3 (X3.alloc (.cells #[x0, x1, x2, x3, x4, x5, p0] 27)) := Below.alloc (Below.refl _ _) (Nat.le_refl _) _
  have hA0 : Ar (X3.alloc (.cells #[x0, x1, x2, x3, x4, x5, p0] 27)) [o0] (.slice (some ⟨X3.heap.size, 0, none⟩) 1 1) := by
   have h := ar_new1 k0.out
   rw [ex] at h
   exact h
  generalize X3.alloc (.cells #[x0, x1, x2, x3, x4, x5, p0] 27) = Y1 at hb hA0 ⊢
  replace HT := qh9 (HT.out.below hb)
  replace HW := qc9 HW hb
  replace k0 := qh9 (k0.out.below hb)
  replace B3 := qh9 (B3.out.keep hb)
  have HA := qh9 hA0
  clear hb hA0
  with_reducible refine (VF.out _ _ HA.out HT.out).mono ?_
  rintro e w4 ⟨p1, rfl, k1, hb⟩
  replace HT := qh9 (HT.out.below hb)
  replace HW := qc9 HW hb
  replace k0 := qh9 (k0.out.below hb)
  replace B3 := qh9 (B3.out.keep hb)
  clear hb HA
  replace k1 := qh9 k1
  have N1 := qh9 (Bx1.new w4 #[.int .i64 0, .string ⟨#[]⟩, .string ⟨#[]⟩, .string ⟨#[]⟩, .string ⟨#[]⟩, .string ⟨#[]⟩, .slice none 0 0])
  go_upto_region 7 with ((with_reducible refine storeB (w1 := w4) (g := w4.heap.size) (b := fl) (p := p1) (.tmp 4) (.tmp 17) ?_ ?_ ?_ ?_ k1.out N1.out.b0 ?_); rfl; rfl; rfl; rfl)
  have Q := Pt1.new (w := w4) (o := fl) (p := p1) (z := #[.int .i64 0, .string ⟨#[]⟩, .string ⟨#[]⟩, .string ⟨#[]⟩, .string ⟨#[]⟩, .string ⟨#[]⟩, .slice none 0 0])
  generalize World.setRow (w4.alloc (.cells #[.int .i64 0, .string ⟨#[]⟩, .string ⟨#[]⟩, .string ⟨#[]⟩, .string ⟨#[]⟩, .string ⟨#[]⟩, .slice none 0 0] 27)) w4.heap.size (cellsO (fl) p1).toArray = X4 at Q ⊢
  have hb := Q.bel
  replace HT := qh9 (HT.out.below hb)
  replace HW := qc9 HW hb
  replace k0 := qh9 (k0.out.below hb)
  replace B3 := qh9 (B3.out.keep hb)
  replace k1 := qh9 (k1.out.below hb)
  have B4 := qh9 Q.b0
  clear hb Q N1
  refine wp_region_grow (l := _) 5 (by kernel_rfl) (by kernel_rfl) (fun i => [18, 19, 20, 21, 5].getD i 0) (LR [LH (i1), LV (vO (fl) p1), LAr [i1, fl], LH (nx), LBx]) (LR_mono (l := [LH (i1), LV (vO (fl) p1), LAr [i1, fl], LH (nx), LBx]) ⟨mLH _, mLV _, mLAr _, mLH _, mLBx, trivial⟩) (by
   intro i j hi hj h
   exact inj_getD [18, 19, 20, 21, 5] (by decide) i j hi hj h) (by
   intro i hi
   exact lt_getD 58 [18, 19, 20, 21, 5] (by decide) i hi) ?step ?done
  case step =>
   intro i hi a w9 v lo hi' hoth hb hw
   have sl4 : a.tmps[4]? = some (.pointer (some ⟨w4.heap.size, 0, none⟩)) := (hoth 4 (fun j hj => by
    have := ne_getD 4 [18, 19, 20, 21, 5] (by decide) j hj
    exact this)).trans rfl
   match i, hi with
   | 0, _ =>
    refine gw_c rfl (wanted_plain rfl) 10  _ _ rfl (fun v w => by go_simp)  ?_
    with_reducible refine (CI1.out w9 (HT.out.below hb)).mono ?_
    rintro e w3 ⟨p, rfl, hp, hb3⟩
    exact ⟨_, rfl, _, rfl, hb3, p, rfl, hp⟩
   | 1, _ =>
    exact gw_box rfl (wanted_plain rfl) (.tmp 4) rfl (eval_of sl4) (B4.out.keep hb) ⟨_, rfl, Below.refl _ _, rfl⟩
   | 2, _ =>
    obtain ⟨s0, r0, _⟩ := hw 0 (by omega) (by kernel_rfl)
    obtain ⟨qq0, e0, kk0⟩ : LH (i1) (v 0) (lo 0) (hi' 0) w9 := r0
    rw [e0] at s0
    obtain ⟨s1, r1, _⟩ := hw 1 (by omega) (by kernel_rfl)
    have e1 : v 1 = vO (fl) p1 := r1
    rw [e1] at s1
    exact gw_bs2 rfl (wanted_plain rfl) 18 19 rfl s0 s1 ⟨_, rfl, Below.alloc (Below.refl _ _) (Nat.le_refl _) _, ar_new2 kk0 (k1.out.below hb)⟩
   | 3, _ =>
    obtain ⟨s1, r1, _⟩ := hw 2 (by omega) (by kernel_rfl)
    have e1 : Ar w9 [i1, fl] (v 2) := r1
    refine gw_ct rfl (wanted_plain rfl) 13 20 _ _ _ rfl (fun v u w => by go_simp) s1 ?_
    with_reducible refine (VN.out w9 _ e1 (HT.out.below hb)).mono ?_
    rintro e w3 ⟨p, rfl, hp, hb3⟩
    exact ⟨_, rfl, _, rfl, hb3, p, rfl, hp⟩
   | 4, _ =>
    exact grow_allocO rfl rfl rfl ⟨_, rfl, Below.alloc (Below.refl _ _) (Nat.le_refl _) _, rfl, heap_alloc_new _ _, by simp⟩
  case done =>
   intro a w9 v lo hi' hdef hsz hoth hb hj hap
   obtain ⟨_, ⟨p2, hv3, k2⟩, hlo3, hhi3⟩ := hj 3 (by omega)
   obtain ⟨_, ⟨hv4, bb4, lt4⟩, hlo4, hhi4⟩ := hj 4 (by omega)
   have ha := eq_puts hdef hsz hoth (fun i hi => (hj i hi).1)
   subst ha
   clear hj hoth hdef hsz hap
   simp only [puts, List.getD_cons_zero, List.getD_cons_succ, hv3, hv4]
   generalize v 0 = v0
   generalize v 1 = v1
   generalize v 2 = v2
   clear hv3 hv4
   simp only [Act.put, List.setIfInBounds_toArray, List.set_cons_zero, List.set_cons_succ]
   show wpList _ _ _ [_] _ _
   have hX := below_setRowO hb hlo4 (cellsO nx p2).toArray
   have kX := Hd.box k2 bb4 rfl (cellsO nx p2).toArray
   have bX := Bx.set (y := (cellsO nx p2).toArray) bb4
   refine storeB (w1 := w9) (g := lo 4) (b := nx) (p := p2) (.tmp 5) (.tmp 21) rfl rfl rfl rfl k2 bb4 ?_
   generalize World.setRow w9 (lo 4) (cellsO nx p2).toArray = B5X at hX kX bX ⊢
   clear hb k2 bb4 lt4 hhi4
   have hb := hX
   clear hX
   replace HT := qh9 (HT.out.below hb)
   replace HW := qc9 HW hb
   replace k0 := qh9 (k0.out.below hb)
   replace B3 := qh9 (B3.out.keep hb)
   replace k1 := qh9 (k1.out.below hb)
   replace B4 := qh9 (B4.out.keep hb)
   have k2H := qh9 kX
   have B5 := qh9 bX
   clear hb kX bX hlo4
   generalize lo 4 = gB5 at *
   go_upto_region 8 with fail
   refine wp_region_grow (l := _) 11 (by kernel_rfl) (by kernel_rfl) (fun i => [22, 23, 24, 25, 26, 27, 28, 29, 30, 31, 6].getD i 0) (LR [LV (vO (o0) p0), LAr [o0], LH (nu), LV (vO (o0) p0), LAr [o0], LH (de), LAr [de], LH (iv), LAr [nu, iv], LH (qq), LBx]) (LR_mono (l := [LV (vO (o0) p0), LAr [o0], LH (nu), LV (vO (o0) p0), LAr [o0], LH (de), LAr [de], LH (iv), LAr [nu, iv], LH (qq), LBx]) ⟨mLV _, mLAr _, mLH _, mLV _, mLAr _, mLH _, mLAr _, mLH _, mLAr _, mLH _, mLBx, trivial⟩) (by
    intro i j hi hj h
    exact inj_getD [22, 23, 24, 25, 26, 27, 28, 29, 30, 31, 6] (by decide) i j hi hj h) (by
    intro i hi
    exact lt_getD 58 [22, 23, 24, 25, 26, 27, 28, 29, 30, 31, 6] (by decide) i hi) ?step ?done
   case step =>
    intro i hi a w9 v lo hi' hoth hb hw
    have sl3 : a.tmps[3]? = some (.pointer (some ⟨w3.heap.size, 0, none⟩)) := (hoth 3 (fun j hj => by
     have := ne_getD 3 [22, 23, 24, 25, 26, 27, 28, 29, 30, 31, 6] (by decide) j hj
     exact this)).trans rfl
    match i, hi with
    | 0, _ =>
     exact gw_box rfl (wanted_plain rfl) (.tmp 3) rfl (eval_of sl3) (B3.out.keep hb) ⟨_, rfl, Below.refl _ _, rfl⟩
    | 1, _ =>
     obtain ⟨s0, r0, _⟩ := hw 0 (by omega) (by kernel_rfl)
     have e0 : v 0 = vO (o0) p0 := r0
     rw [e0] at s0
     exact gw_bs1 rfl (wanted_plain rfl) 22 rfl s0 ⟨_, rfl, Below.alloc (Below.refl _ _) (Nat.le_refl _) _, ar_new1 (k0.out.below hb)⟩
    | 2, _ =>
     obtain ⟨s1, r1, _⟩ := hw 1 (by omega) (by kernel_rfl)
     have e1 : Ar w9 [o0] (v 1) := r1
     refine gw_ct rfl (wanted_plain rfl) 13 23 _ _ _ rfl (fun v u w => by go_simp) s1 ?_
     with_reducible refine (Vnum.out w9 _ e1 (HT.out.below hb)).mono ?_
     rintro e w3 ⟨p, rfl, hp, hb3⟩
     exact ⟨_, rfl, _, rfl, hb3, p, rfl, hp⟩
    | 3, _ =>
     exact gw_box rfl (wanted_plain rfl) (.tmp 3) rfl (eval_of sl3) (B3.out.keep hb) ⟨_, rfl, Below.refl _ _, rfl⟩
    | 4, _ =>
     obtain ⟨s0, r0, _⟩ := hw 3 (by omega) (by kernel_rfl)
     have e0 : v 3 = vO (o0) p0 := r0
     rw [e0] at s0
     exact gw_bs1 rfl (wanted_plain rfl) 25 rfl s0 ⟨_, rfl, Below.alloc (Below.refl _ _) (Nat.le_refl _) _, ar_new1 (k0.out.below hb)⟩
    | 5, _ =>
     obtain ⟨s1, r1, _⟩ := hw 4 (by omega) (by kernel_rfl)
     have e1 : Ar w9 [o0] (v 4) := r1
     refine gw_ct rfl (wanted_plain rfl) 13 26 _ _ _ rfl (fun v u w => by go_simp) s1 ?_
     with_reducible refine (Vden.out w9 _ e1 (HT.out.below hb)).mono ?_
     rintro e w3 ⟨p, rfl, hp, hb3⟩
     exact ⟨_, rfl, _, rfl, hb3, p, rfl, hp⟩
    | 6, _ =>
     obtain ⟨s0, r0, _⟩ := hw 5 (by omega) (by kernel_rfl)
     obtain ⟨qq0, e0, kk0⟩ : LH (de) (v 5) (lo 5) (hi' 5) w9 := r0
     rw [e0] at s0
     exact gw_bs1 rfl (wanted_plain rfl) 27 rfl s0 ⟨_, rfl, Below.alloc (Below.refl _ _) (Nat.le_refl _) _, ar_new1 kk0⟩
    | 7, _ =>
     obtain ⟨s1, r1, _⟩ := hw 6 (by omega) (by kernel_rfl)
     have e1 : Ar w9 [de] (v 6) := r1
     refine gw_ct rfl (wanted_plain rfl) 13 28 _ _ _ rfl (fun v u w => by go_simp) s1 ?_
     with_reducible refine (Vinv.out w9 _ e1 (HT.out.below hb)).mono ?_
     rintro e w3 ⟨p, rfl, hp, hb3⟩
     exact ⟨_, rfl, _, rfl, hb3, p, rfl, hp⟩
    | 8, _ =>
     obtain ⟨s0, r0, _⟩ := hw 2 (by omega) (by kernel_rfl)
     obtain ⟨qq0, e0, kk0⟩ : LH (nu) (v 2) (lo 2) (hi' 2) w9 := r0
     rw [e0] at s0
     obtain ⟨s1, r1, _⟩ := hw 7 (by omega) (by kernel_rfl)
     obtain ⟨qq1, e1, kk1⟩ : LH (iv) (v 7) (lo 7) (hi' 7) w9 := r1
     rw [e1] at s1
     exact gw_bs2 rfl (wanted_plain rfl) 24 29 rfl s0 s1 ⟨_, rfl, Below.alloc (Below.refl _ _) (Nat.le_refl _) _, ar_new2 kk0 kk1⟩
    | 9, _ =>
     obtain ⟨s1, r1, _⟩ := hw 8 (by omega) (by kernel_rfl)
     have e1 : Ar w9 [nu, iv] (v 8) := r1
     refine gw_ct rfl (wanted_plain rfl) 13 30 _ _ _ rfl (fun v u w => by go_simp) s1 ?_
     with_reducible refine (Vmul.out w9 _ e1 (HT.out.below hb)).mono ?_
     rintro e w3 ⟨p, rfl, hp, hb3⟩
     exact ⟨_, rfl, _, rfl, hb3, p, rfl, hp⟩
    | 10, _ =>
     exact grow_allocO rfl rfl rfl ⟨_, rfl, Below.alloc (Below.refl _ _) (Nat.le_refl _) _, rfl, heap_alloc_new _ _, by simp⟩
   case done =>
    intro a w9 v lo hi' hdef hsz hoth hb hj hap
    obtain ⟨_, ⟨p3, hv9, k3⟩, hlo9, hhi9⟩ := hj 9 (by omega)
    obtain ⟨_, ⟨hv10, bb10, lt10⟩, hlo10, hhi10⟩ := hj 10 (by omega)
    have ha := eq_puts hdef hsz hoth (fun i hi => (hj i hi).1)
    subst ha
    clear hj hoth hdef hsz hap
    simp only [puts, List.getD_cons_zero, List.getD_cons_succ, hv9, hv10]
    generalize v 0 = v0
    generalize v 1 = v1
    generalize v 2 = v2
    generalize v 3 = v3
    generalize v 4 = v4
    generalize v 5 = v5
    generalize v 6 = v6
    generalize v 7 = v7
    generalize v 8 = v8
    clear hv9 hv10
    simp only [Act.put, List.setIfInBounds_toArray, List.set_cons_zero, List.set_cons_succ]
    show wpList _ _ _ [_] _ _
    have hX := below_setRowO hb hlo10 (cellsO qq p3).toArray
    have kX := Hd.box k3 bb10 rfl (cellsO qq p3).toArray
    have bX := Bx.set (y := (cellsO qq p3).toArray) bb10
    refine storeB (w1 := w9) (g := lo 10) (b := qq) (p := p3) (.tmp 6) (.tmp 31) rfl rfl rfl rfl k3 bb10 ?_
    generalize World.setRow w9 (lo 10) (cellsO qq p3).toArray = B6X at hX kX bX ⊢
    clear hb k3 bb10 lt10 hhi10
    have hb := hX
    clear hX
    replace HT := qh9 (HT.out.below hb)
    replace HW := qc9 HW hb
    replace k0 := qh9 (k0.out.below hb)
    replace B3 := qh9 (B3.out.keep hb)
    replace k1 := qh9 (k1.out.below hb)
    replace B4 := qh9 (B4.out.keep hb)
    replace k2H := qh9 (k2H.out.below hb)
    replace B5 := qh9 (B5.out.keep hb)
    have k3H := qh9 kX
    have B6 := qh9 bX
    clear hb kX bX hlo10
    generalize lo 10 = gB6 at *
    go_upto_region 9 with fail
    refine wp_region_grow (l := _) 5 (by kernel_rfl) (by kernel_rfl) (fun i => [32, 33, 34, 35, 7].getD i 0) (LR [LH (i0), LV (vO (o0) p0), LAr [i0, o0], LH (qq), LBx]) (LR_mono (l := [LH (i0), LV (vO (o0) p0), LAr [i0, o0], LH (qq), LBx]) ⟨mLH _, mLV _, mLAr _, mLH _, mLBx, trivial⟩) (by
     intro i j hi hj h
     exact inj_getD [32, 33, 34, 35, 7] (by decide) i j hi hj h) (by
     intro i hi
     exact lt_getD 58 [32, 33, 34, 35, 7] (by decide) i hi) ?step ?done
    case step =>
     intro i hi a w9 v lo hi' hoth hb hw
     have sl3 : a.tmps[3]? = some (.pointer (some ⟨w3.heap.size, 0, none⟩)) := (hoth 3 (fun j hj => by
      have := ne_getD 3 [32, 33, 34, 35, 7] (by decide) j hj
      exact this)).trans rfl
     match i, hi with
     | 0, _ =>
      refine gw_c rfl (wanted_plain rfl) 10  _ _ rfl (fun v w => by go_simp)  ?_
      with_reducible refine (CI0.out w9 (HT.out.below hb)).mono ?_
      rintro e w3 ⟨p, rfl, hp, hb3⟩
      exact ⟨_, rfl, _, rfl, hb3, p, rfl, hp⟩
     | 1, _ =>
      exact gw_box rfl (wanted_plain rfl) (.tmp 3) rfl (eval_of sl3) (B3.out.keep hb) ⟨_, rfl, Below.refl _ _, rfl⟩
     | 2, _ =>
      obtain ⟨s0, r0, _⟩ := hw 0 (by omega) (by kernel_rfl)
      obtain ⟨qq0, e0, kk0⟩ : LH (i0) (v 0) (lo 0) (hi' 0) w9 := r0
      rw [e0] at s0
      obtain ⟨s1, r1, _⟩ := hw 1 (by omega) (by kernel_rfl)
      have e1 : v 1 = vO (o0) p0 := r1
      rw [e1] at s1
      exact gw_bs2 rfl (wanted_plain rfl) 32 33 rfl s0 s1 ⟨_, rfl, Below.alloc (Below.refl _ _) (Nat.le_refl _) _, ar_new2 kk0 (k0.out.below hb)⟩
     | 3, _ =>
      obtain ⟨s1, r1, _⟩ := hw 2 (by omega) (by kernel_rfl)
      have e1 : Ar w9 [i0, o0] (v 2) := r1
      refine gw_ct rfl (wanted_plain rfl) 13 34 _ _ _ rfl (fun v u w => by go_simp) s1 ?_
      with_reducible refine (Vad.out w9 _ e1 (HT.out.below hb)).mono ?_
      rintro e w3 ⟨p, rfl, hp, hb3⟩
      exact ⟨_, rfl, _, rfl, hb3, p, rfl, hp⟩
     | 4, _ =>
      exact grow_allocO rfl rfl rfl ⟨_, rfl, Below.alloc (Below.refl _ _) (Nat.le_refl _) _, rfl, heap_alloc_new _ _, by simp⟩
    case done =>
     intro a w9 v lo hi' hdef hsz hoth hb hj hap
     obtain ⟨_, ⟨p4, hv3, k4⟩, hlo3, hhi3⟩ := hj 3 (by omega)
     obtain ⟨_, ⟨hv4, bb4, lt4⟩, hlo4, hhi4⟩ := hj 4 (by omega)
     have ha := eq_puts hdef hsz hoth (fun i hi => (hj i hi).1)
     subst ha
     clear hj hoth hdef hsz hap
     simp only [puts, List.getD_cons_zero, List.getD_cons_succ, hv3, hv4]
     generalize v 0 = v0
     generalize v 1 = v1
     generalize v 2 = v2
     clear hv3 hv4
     simp only [Act.put, List.setIfInBounds_toArray, List.set_cons_zero, List.set_cons_succ]
     show wpList _ _ _ [_] _ _
     have hX := below_setRowO hb hlo4 (cellsO qq p4).toArray
     have kX := Hd.box k4 bb4 rfl (cellsO qq p4).toArray
     have bX := Bx.set (y := (cellsO qq p4).toArray) bb4
     refine storeB (w1 := w9) (g := lo 4) (b := qq) (p := p4) (.tmp 7) (.tmp 35) rfl rfl rfl rfl k4 bb4 ?_
     generalize World.setRow w9 (lo 4) (cellsO qq p4).toArray = B7X at hX kX bX ⊢
     clear hb k4 bb4 lt4 hhi4
     have hb := hX
     clear hX
     replace HT := qh9 (HT.out.below hb)
     replace HW := qc9 HW hb
     replace k0 := qh9 (k0.out.below hb)
     replace B3 := qh9 (B3.out.keep hb)
     replace k1 := qh9 (k1.out.below hb)
     replace B4 := qh9 (B4.out.keep hb)
     replace k2H := qh9 (k2H.out.below hb)
     replace B5 := qh9 (B5.out.keep hb)
     replace k3H := qh9 (k3H.out.below hb)
     replace B6 := qh9 (B6.out.keep hb)
     have k4H := qh9 kX
     have B7 := qh9 bX
     clear hb kX bX hlo4
     generalize lo 4 = gB7 at *
     obtain ⟨y0, y1, y2, y3, y4, y5, ey⟩ := cells7 fl p1
     obtain ⟨u0, u1, u2, u3, u4, u5, eu⟩ := cells7 nx p2
     clear VF VN Vnum Vden Vinv Vmul Vad CI0 CI1
     go_wp2_with (first | ((with_reducible refine loadB (.tmp 3) ?_ ?_ ?_ B3.out ?_); rfl; rfl; rfl) | ((with_reducible refine loadB (.tmp 4) ?_ ?_ ?_ B4.out ?_); rfl; rfl; rfl) | ((with_reducible refine loadB (.tmp 5) ?_ ?_ ?_ B5.out ?_); rfl; rfl; rfl) | ((with_reducible refine loadB (.tmp 6) ?_ ?_ ?_ B6.out ?_); rfl; rfl; rfl) | ((with_reducible refine loadB (.tmp 7) ?_ ?_ ?_ B7.out ?_); rfl; rfl; rfl) | ((with_reducible refine loadG (.tmp 3) ?_ ?_ ?_ B3.out ?_); rfl; rfl; rfl) | ((with_reducible refine loadG (.tmp 4) ?_ ?_ ?_ B4.out ?_); rfl; rfl; rfl) | ((with_reducible refine loadG (.tmp 5) ?_ ?_ ?_ B5.out ?_); rfl; rfl; rfl) | ((with_reducible refine loadG (.tmp 6) ?_ ?_ ?_ B6.out ?_); rfl; rfl; rfl) | ((with_reducible refine loadG (.tmp 7) ?_ ?_ ?_ B7.out ?_); rfl; rfl; rfl))
     with_reducible refine (CII.out _ _).mono ?_
     rintro e w5 ⟨rfl, hb⟩
     replace HT := qh9 (HT.out.below hb)
     replace HW := qc9 HW hb
     replace k0 := qh9 (k0.out.below hb)
     replace B3 := qh9 (B3.out.keep hb)
     replace k1 := qh9 (k1.out.below hb)
     replace B4 := qh9 (B4.out.keep hb)
     replace k2H := qh9 (k2H.out.below hb)
     replace B5 := qh9 (B5.out.keep hb)
     replace k3H := qh9 (k3H.out.below hb)
     replace B6 := qh9 (B6.out.keep hb)
     replace k4H := qh9 (k4H.out.below hb)
     replace B7 := qh9 (B7.out.keep hb)
     clear hb
     have fx := B3.out
     rw [ex] at fx
     obtain ⟨c0, c1, c2, c3, c4, c5, c6⟩ := (row7 fx).1
     have fy := B4.out
     rw [ey] at fy
     obtain ⟨d0, d1, d2, d3, d4, d5, d6⟩ := (row7 fy).1
     have fu := B5.out
     rw [eu] at fu
     obtain ⟨g0, g1, g2, g3, g4, g5, g6⟩ := (row7 fu).1
     go_wp2_with fail
     clear fx c0 c1 c2 c3 c4 c5 c6 fy d0 d1 d2 d3 d4 d5 d6 fu g0 g1 g2 g3 g4 g5 g6
     have hb : Below w5.heap.size w5 (w5.alloc (.cells #[x0, x1, x2, x3, x4, x5, p0, y0, y1, y2, y3, y4, y5, p1] 27)) := Below.alloc (Below.refl _ _) (Nat.le_refl _) _
     have hA0 : Ar (w5.alloc (.cells #[x0, x1, x2, x3, x4, x5, p0, y0, y1, y2, y3, y4, y5, p1] 27)) [o0, fl] (.slice (some ⟨w5.heap.size, 0, none⟩) 2 2) := by
      have h := ar_new2 k0.out k1.out
      rw [ex, ey] at h
      exact h
     generalize w5.alloc (.cells #[x0, x1, x2, x3, x4, x5, p0, y0, y1, y2, y3, y4, y5, p1] 27) = Y2 at hb hA0 ⊢
     replace HT := qh9 (HT.out.below hb)
     replace HW := qc9 HW hb
     replace k0 := qh9 (k0.out.below hb)
     replace B3 := qh9 (B3.out.keep hb)
     replace k1 := qh9 (k1.out.below hb)
     replace B4 := qh9 (B4.out.keep hb)
     replace k2H := qh9 (k2H.out.below hb)
     replace B5 := qh9 (B5.out.keep hb)
     replace k3H := qh9 (k3H.out.below hb)
     replace B6 := qh9 (B6.out.keep hb)
     replace k4H := qh9 (k4H.out.below hb)
     replace B7 := qh9 (B7.out.keep hb)
     have HA := qh9 hA0
     clear hb hA0
     with_reducible refine (VL1.out _ _ HA.out HT.out).mono ?_
     rintro e w6 ⟨pa, rfl, ka, hb⟩
     replace HT := qh9 (HT.out.below hb)
     replace HW := qc9 HW hb
     replace k0 := qh9 (k0.out.below hb)
     replace B3 := qh9 (B3.out.keep hb)
     replace k1 := qh9 (k1.out.below hb)
     replace B4 := qh9 (B4.out.keep hb)
     replace k2H := qh9 (k2H.out.below hb)
     replace B5 := qh9 (B5.out.keep hb)
     replace k3H := qh9 (k3H.out.below hb)
     replace B6 := qh9 (B6.out.keep hb)
     replace k4H := qh9 (k4H.out.below hb)
     replace B7 := qh9 (B7.out.keep hb)
     clear hb
     replace ka := qh9 ka
     clear HA
     go_wp2_with fail
     with_reducible refine (isNilN _ _ ka.out).mono ?_
     rintro e w7 ⟨rfl, hb⟩
     replace HT := qh9 (HT.out.below hb)
     replace HW := qc9 HW hb
     replace k0 := qh9 (k0.out.below hb)
     replace B3 := qh9 (B3.out.keep hb)
     replace k1 := qh9 (k1.out.below hb)
     replace B4 := qh9 (B4.out.keep hb)
     replace k2H := qh9 (k2H.out.below hb)
     replace B5 := qh9 (B5.out.keep hb)
     replace k3H := qh9 (k3H.out.below hb)
     replace B6 := qh9 (B6.out.keep hb)
     replace k4H := qh9 (k4H.out.below hb)
     replace B7 := qh9 (B7.out.keep hb)
     replace ka := qh9 (ka.out.below hb)
     clear hb
     clear ka
     have fx := B3.out
     rw [ex] at fx
     obtain ⟨c0, c1, c2, c3, c4, c5, c6⟩ := (row7 fx).1
     have fy := B4.out
     rw [ey] at fy
     obtain ⟨d0, d1, d2, d3, d4, d5, d6⟩ := (row7 fy).1
     have fu := B5.out
     rw [eu] at fu
     obtain ⟨g0, g1, g2, g3, g4, g5, g6⟩ := (row7 fu).1
     go_wp2_with fail
     clear fx c0 c1 c2 c3 c4 c5 c6 fy d0 d1 d2 d3 d4 d5 d6 fu g0 g1 g2 g3 g4 g5 g6
     have hb : Below w7.heap.size w7 (w7.alloc (.cells #[x0, x1, x2, x3, x4, x5, p0, u0, u1, u2, u3, u4, u5, p2] 27)) := Below.alloc (Below.refl _ _) (Nat.le_refl _) _
     have hA0 : Ar (w7.alloc (.cells #[x0, x1, x2, x3, x4, x5, p0, u0, u1, u2, u3, u4, u5, p2] 27)) [o0, nx] (.slice (some ⟨w7.heap.size, 0, none⟩) 2 2) := by
      have h := ar_new2 k0.out k2H.out
      rw [ex, eu] at h
      exact h
     generalize w7.alloc (.cells #[x0, x1, x2, x3, x4, x5, p0, u0, u1, u2, u3, u4, u5, p2] 27) = Y3 at hb hA0 ⊢
     replace HT := qh9 (HT.out.below hb)
     replace HW := qc9 HW hb
     replace k0 := qh9 (k0.out.below hb)
     replace B3 := qh9 (B3.out.keep hb)
     replace k1 := qh9 (k1.out.below hb)
     replace B4 := qh9 (B4.out.keep hb)
     replace k2H := qh9 (k2H.out.below hb)
     replace B5 := qh9 (B5.out.keep hb)
     replace k3H := qh9 (k3H.out.below hb)
     replace B6 := qh9 (B6.out.keep hb)
     replace k4H := qh9 (k4H.out.below hb)
     replace B7 := qh9 (B7.out.keep hb)
     have HA := qh9 hA0
     clear hb hA0
     with_reducible refine (VL2.out _ _ HA.out HT.out).mono ?_
     rintro e w8 ⟨pa, rfl, ka, hb⟩
     replace HT := qh9 (HT.out.below hb)
     replace HW := qc9 HW hb
     replace k0 := qh9 (k0.out.below hb)
     replace B3 := qh9 (B3.out.keep hb)
     replace k1 := qh9 (k1.out.below hb)
     replace B4 := qh9 (B4.out.keep hb)
     replace k2H := qh9 (k2H.out.below hb)
     replace B5 := qh9 (B5.out.keep hb)
     replace k3H := qh9 (k3H.out.below hb)
     replace B6 := qh9 (B6.out.keep hb)
     replace k4H := qh9 (k4H.out.below hb)
     replace B7 := qh9 (B7.out.keep hb)
     clear hb
     replace ka := qh9 ka
     clear HA
     go_wp2_with fail
     with_reducible refine (tRH _).mono ?_
     rintro e w9 ⟨pb, rfl, kb, hb⟩
     replace HT := qh9 (HT.out.below hb)
     replace HW := qc9 HW hb
     replace k0 := qh9 (k0.out.below hb)
     replace B3 := qh9 (B3.out.keep hb)
     replace k1 := qh9 (k1.out.below hb)
     replace B4 := qh9 (B4.out.keep hb)
     replace k2H := qh9 (k2H.out.below hb)
     replace B5 := qh9 (B5.out.keep hb)
     replace k3H := qh9 (k3H.out.below hb)
     replace B6 := qh9 (B6.out.keep hb)
     replace k4H := qh9 (k4H.out.below hb)
     replace B7 := qh9 (B7.out.keep hb)
     replace ka := qh9 (ka.out.below hb)
     clear hb
     replace kb := qh9 kb
     go_wp2_with fail
     with_reducible refine (CE.out .t _ _ _ ka.out kb.out).mono ?_
     rintro e w10 ⟨rfl, hb⟩
     replace HT := qh9 (HT.out.below hb)
     replace HW := qc9 HW hb
     replace k0 := qh9 (k0.out.below hb)
     replace B3 := qh9 (B3.out.keep hb)
     replace k1 := qh9 (k1.out.below hb)
     replace B4 := qh9 (B4.out.keep hb)
     replace k2H := qh9 (k2H.out.below hb)
     replace B5 := qh9 (B5.out.keep hb)
     replace k3H := qh9 (k3H.out.below hb)
     replace B6 := qh9 (B6.out.keep hb)
     replace k4H := qh9 (k4H.out.below hb)
     replace B7 := qh9 (B7.out.keep hb)
     replace ka := qh9 (ka.out.below hb)
     replace kb := qh9 (kb.out.below hb)
     clear hb
     go_wp2_with (first | ((with_reducible refine loadB (.tmp 3) ?_ ?_ ?_ B3.out ?_); rfl; rfl; rfl) | ((with_reducible refine loadB (.tmp 4) ?_ ?_ ?_ B4.out ?_); rfl; rfl; rfl) | ((with_reducible refine loadB (.tmp 5) ?_ ?_ ?_ B5.out ?_); rfl; rfl; rfl) | ((with_reducible refine loadB (.tmp 6) ?_ ?_ ?_ B6.out ?_); rfl; rfl; rfl) | ((with_reducible refine loadB (.tmp 7) ?_ ?_ ?_ B7.out ?_); rfl; rfl; rfl) | ((with_reducible refine loadG (.tmp 3) ?_ ?_ ?_ B3.out ?_); rfl; rfl; rfl) | ((with_reducible refine loadG (.tmp 4) ?_ ?_ ?_ B4.out ?_); rfl; rfl; rfl) | ((with_reducible refine loadG (.tmp 5) ?_ ?_ ?_ B5.out ?_); rfl; rfl; rfl) | ((with_reducible refine loadG (.tmp 6) ?_ ?_ ?_ B6.out ?_); rfl; rfl; rfl) | ((with_reducible refine loadG (.tmp 7) ?_ ?_ ?_ B7.out ?_); rfl; rfl; rfl))
     with_reducible refine (CE.out qq _ _ _ k3H.out k4H.out).mono ?_
     rintro e w11 ⟨rfl, hb⟩
     replace HT := qh9 (HT.out.below hb)
     replace HW := qc9 HW hb
     replace k0 := qh9 (k0.out.below hb)
     replace B3 := qh9 (B3.out.keep hb)
     replace k1 := qh9 (k1.out.below hb)
     replace B4 := qh9 (B4.out.keep hb)
     replace k2H := qh9 (k2H.out.below hb)
     replace B5 := qh9 (B5.out.keep hb)
     replace k3H := qh9 (k3H.out.below hb)
     replace B6 := qh9 (B6.out.keep hb)
     replace k4H := qh9 (k4H.out.below hb)
     replace B7 := qh9 (B7.out.keep hb)
     replace ka := qh9 (ka.out.below hb)
     replace kb := qh9 (kb.out.below hb)
     clear hb
     go_wp2
     go_ret
     exact ⟨rfl, HW.out⟩
end Go.Proofs.YtbffnoodpoagcaaGreatDoor
