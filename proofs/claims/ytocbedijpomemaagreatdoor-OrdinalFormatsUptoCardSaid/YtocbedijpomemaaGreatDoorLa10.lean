/- The walk of OrdinalFormats. -/
import Derived.Test.YtocbedijpomemaaGreatDoorG19
import Derived.Test.YtocbedijpomemaaGreatDoorG29
namespace Go.Proofs.YtocbedijpomemaaGreatDoor
open Go Go.RowKit
set_option linter.unusedVariables false
set_option maxHeartbeats 32000000
set_option maxRecDepth 100000

theorem ordinalFormats_walk (s : Sd) (sc sd : Value) (r : Rw) (ra rb rc rd : Value) (w : World) (As : SdAt w (Has w) s [sc, sd]) (Ns : s.cnt ≤ 1048576) (hr : RawAt w (Has w) r [ra, rb, rc, rd]) (ht : Tab w) :
 Calls Tryz.prog 3 #[.agg #[sc, sd], .agg #[ra, rb, rc, rd]] w (RetB w true) := by
 have HT := hI ht
 have FW : Hid (∀ X, Below w.heap.size w X → Calls Tryz.prog 5 #[.slice (some ⟨X.heap.size, 0, none⟩) 1 1] (X.alloc (.cells #[sc, sd] 24)) (fun e w' => e = .returned (.bool (fewSd [s])) ∧ Below X.heap.size X w')) := fun X h => few1 s sc sd w X As Ns h
 have Ks : Hid (fewSd [s] = true → ∃ a : On, a.sm 45 3 84 ∧ ∀ X, Below w.heap.size w X → Calls Tryz.prog 9 #[.agg #[sc, sd]] X (RetH X a.ob)) := fun hf => madeK hf (by simp) As ht
 generalize fewSd [s] = fs at FW Ks
 have Rr := hI hr
 clear hr
 have CFr : Hid (∀ W', Below w.heap.size w W' → Calls Tryz.prog 6 #[.agg #[ra, rb, rc, rd], .int .i64 20] W' (fun e w' => e = .returned (.bool (few r 20)) ∧ Below W'.heap.size W' w')) := fun W' h => fewO r [ra, rb, rc, rd] 20 W' (Has w) (In.has w |>.later h.size) (Rr.out.below (In.has w) h) (by decide) (by decide)
 have KOr : Hid (few r 20 = true → ∀ W', Below w.heap.size w W' → Calls Tryz.prog 7 #[.agg #[ra, rb, rc, rd]] W' (RetX W' 200)) := fun hf W' h => by
  obtain ⟨hok, hcn⟩ := few_ok hf
  exact (objectO r [ra, rb, rc, rd] W' (Has w) (In.has w |>.later h.size) (Rr.out.below (In.has w) h) hok (HT.out.below h)).mono fun _ _ hr => hr.le (by omega)
 generalize few r 20 = fr at CFr KOr
 clear ht As Ns
 go_enter Tryz.func3, Tryz.ntmps3
 go_wp2_with fail
 have T := blk2 w (.cells #[sc, sd] 24) (.cells #[ra, rb, rc, rd] 27)
 generalize ((w.alloc (.cells #[sc, sd] 24)).alloc (.cells #[ra, rb, rc, rd] 27)) = W at T ⊢
 obtain ⟨TB, T0, T1⟩ := T
 have HW := hI TB
 have Bs : Hid (Sb W (w.heap.size) sc sd) := T0
 have Br : Hid (Rb W (w.heap.size + 1) ra rb rc rd) := T1
 replace HT := hI (HT.out.below TB)
 clear TB T0 T1
 with_reducible refine (firstO _ HT.out).mono ?_
 rintro e w1 ⟨rfl, hb⟩
 replace HW := kW HW hb
 replace Bs := hI (Bs.out.keep hb)
 replace Br := hI (Br.out.keep hb)
 replace HT := kT HT hb
 clear hb
 have cs0 := Bs.out.c0
 have cs1 := Bs.out.c1
 go_wp2_with fail
 clear cs0 cs1
 with_reducible refine (FW.out _ HW.out).mono ?_
 rintro e w2 ⟨rfl, hb⟩
 replace HW := kW HW hb
 replace Bs := hI (Bs.out.keep hb)
 replace Br := hI (Br.out.keep hb)
 replace HT := kT HT hb
 clear hb
 cases fs with
 | false =>
  go_wp2
  all_goals go_ret
  all_goals exact ⟨rfl, HW.out⟩
 | true =>
  obtain ⟨m0, m1, m2, m3⟩ := Br.out.c
  go_wp2_with fail
  clear m0 m1 m2 m3
  with_reducible refine (CFr.out _ HW.out).mono ?_
  rintro e w3 ⟨rfl, hb⟩
  replace HW := kW HW hb
  replace Bs := hI (Bs.out.keep hb)
  replace Br := hI (Br.out.keep hb)
  replace HT := kT HT hb
  clear hb
  cases fr with
  | false =>
   go_wp2
   all_goals go_ret
   all_goals exact ⟨rfl, HW.out⟩
  | true =>
   replace KOr := KOr.out (by simp)
   replace KOr := hI KOr
   obtain ⟨oa, sma, Ma⟩ := Ks.out (by simp)
   replace sma := hI sma
   replace Ma := hI Ma
   clear Ks
   obtain ⟨m0, m1, m2, m3⟩ := Br.out.c
   go_wp2_with fail
   clear m0 m1 m2 m3
   with_reducible refine (KOr.out _ HW.out).mono ?_
   intro e w4 hx
   obtain ⟨ox, px, rfl, kx, hb, hok⟩ := hx.h
   replace HW := kW HW hb
   replace Bs := hI (Bs.out.keep hb)
   replace Br := hI (Br.out.keep hb)
   replace HT := kT HT hb
   clear hb hx KOr
   replace kx := hI kx
   have bX := hI (Ob.bd_more (show 10 ≤ 90 by omega) hok.1)
   have nX : Hid (ox.nodes ≤ 3000) := hI (Nat.le_trans hok.2 (by omega))
   have hA2 := onX sma.out (by omega) (by omega)
   have bA := hI hA2.1
   have nA := hI hA2.2
   clear hok hA2
   have N1 := hI (Bx1.new w4 #[.int .i64 0, .string ⟨#[]⟩, .string ⟨#[]⟩, .string ⟨#[]⟩, .string ⟨#[]⟩, .string ⟨#[]⟩, .slice none 0 0])
   go_upto_region 6 with (with_reducible refine sB (.tmp 5) (.tmp 18) kx.out N1.out.b0 ?_)
   have Q := Pt1.new (w := w4) (o := ox) (p := px) (z := #[.int .i64 0, .string ⟨#[]⟩, .string ⟨#[]⟩, .string ⟨#[]⟩, .string ⟨#[]⟩, .string ⟨#[]⟩, .slice none 0 0])
   generalize World.setRow (w4.alloc (.cells #[.int .i64 0, .string ⟨#[]⟩, .string ⟨#[]⟩, .string ⟨#[]⟩, .string ⟨#[]⟩, .string ⟨#[]⟩, .slice none 0 0] 35)) w4.heap.size (cellsO (ox) px).toArray = XB at Q ⊢
   have hb := Q.bel
   replace HW := kW HW hb
   replace Bs := hI (Bs.out.keep hb)
   replace Br := hI (Br.out.keep hb)
   replace HT := kT HT hb
   replace kx := kH kx hb
   have BX := hI Q.b0
   clear hb Q N1
   have FPa : Hid (∀ X q, Hd X oa.ob q → Tab X → Calls Tryz.prog 8 #[vO oa.ob q] X (RetT X (BA (fo oa.ob)))) := fun X q h hT => formatP oa.ob q X bA.out nA.out h hT
   have FRa : Hid (∀ X q, Hd X oa.ob q → Tab X → Calls Tryz.prog 10 #[vO oa.ob q] X (RetT X (BA (fo oa.ob)))) := fun X q h hT => formatRO oa.ob q X bA.out nA.out h hT
   have FPx : Hid (∀ X q, Hd X ox q → Tab X → Calls Tryz.prog 8 #[vO ox q] X (RetT X (BA (fo ox)))) := fun X q h hT => formatP ox q X bX.out nX.out h hT
   have FRx : Hid (∀ X q, Hd X ox q → Tab X → Calls Tryz.prog 10 #[vO ox q] X (RetT X (BA (fo ox)))) := fun X q h hT => formatRO ox q X bX.out nX.out h hT
   generalize BA (fo oa.ob) = ta at FPa FRa
   generalize BA (fo ox) = tx at FPx FRx
   clear bX nX bA nA
   refine wp_region_grow (l := _) 14 (by kernel_rfl) (by kernel_rfl) (fun i => [19, 20, 21, 22, 23, 24, 25, 26, 27, 28, 29, 30, 31, 32].getD i 0) (LR [LV (.agg #[sc, sd]), LH oa.ob, LV (.string ta), LV (.agg #[sc, sd]), LH oa.ob, LV (.string ta), LV (.bool true), LV (.bool true), LV (vO ox px), LV (.string tx), LV (vO ox px), LV (.string tx), LV (.bool true), LV (.bool true)]) (LR_mono ⟨mLV _, mLH _, mLV _, mLV _, mLH _, mLV _, mLV _, mLV _, mLV _, mLV _, mLV _, mLV _, mLV _, mLV _, trivial⟩) (by
    intro i j hi hj h
    exact inj_getD [19, 20, 21, 22, 23, 24, 25, 26, 27, 28, 29, 30, 31, 32] (by decide) i j hi hj h) (by
    intro i hi
    exact lt_getD 33 [19, 20, 21, 22, 23, 24, 25, 26, 27, 28, 29, 30, 31, 32] (by decide) i hi) ?step ?done
   case step =>
    intro i hi a w9 v lo hi' hoth hb hw
    have sl2 : a.tmps[2]? = some (.pointer (some ⟨w.heap.size, 0, none⟩)) := (hoth 2 (fun j hj => ne_getD 2 _ (by decide) j hj)).trans rfl
    have sl5 : a.tmps[5]? = some (.pointer (some ⟨w4.heap.size, 0, none⟩)) := (hoth 5 (fun j hj => ne_getD 5 _ (by decide) j hj)).trans rfl
    match i, hi with
    | 0, _ =>
     exact gr_seed rfl rfl (.tmp 2) rfl (eval_of sl2) (Bs.out.keep hb) ⟨_, rfl, Below.refl _ _, rfl⟩
    | 1, _ =>
     obtain ⟨ss0, rr0, _⟩ := hw 0 (by omega) (by kernel_rfl)
     have ee0 : v 0 = .agg #[sc, sd] := rr0
     rw [ee0] at ss0
     refine gw_t rfl (wanted_plain rfl) 9 19 _ _ rfl (fun v w => by go_simp) ss0 ?_
     with_reducible refine (Ma.out w9 (chain2 HW.out hb (Nat.le_refl _))).mono ?_
     rintro e w3 ⟨p, rfl, hp, hb3⟩
     exact ⟨_, rfl, _, rfl, hb3, p, rfl, hp⟩
    | 2, _ =>
     obtain ⟨ss0, rr0, _⟩ := hw 1 (by omega) (by kernel_rfl)
     obtain ⟨qq0, ee0, kk0⟩ : LH (oa.ob) (v 1) (lo 1) (hi' 1) w9 := rr0
     rw [ee0] at ss0
     refine gw_t rfl (wanted_plain rfl) 8 20 _ _ rfl (fun v w => by go_simp) ss0 ?_
     with_reducible refine (FPa.out w9 _ kk0 (HT.out.below hb)).mono ?_
     rintro e w3 ⟨rfl, hb3⟩
     exact ⟨_, rfl, _, rfl, hb3, rfl⟩
    | 3, _ =>
     exact gr_seed rfl rfl (.tmp 2) rfl (eval_of sl2) (Bs.out.keep hb) ⟨_, rfl, Below.refl _ _, rfl⟩
    | 4, _ =>
     obtain ⟨ss0, rr0, _⟩ := hw 3 (by omega) (by kernel_rfl)
     have ee0 : v 3 = .agg #[sc, sd] := rr0
     rw [ee0] at ss0
     refine gw_t rfl (wanted_plain rfl) 9 22 _ _ rfl (fun v w => by go_simp) ss0 ?_
     with_reducible refine (Ma.out w9 (chain2 HW.out hb (Nat.le_refl _))).mono ?_
     rintro e w3 ⟨p, rfl, hp, hb3⟩
     exact ⟨_, rfl, _, rfl, hb3, p, rfl, hp⟩
    | 5, _ =>
     obtain ⟨ss0, rr0, _⟩ := hw 4 (by omega) (by kernel_rfl)
     obtain ⟨qq0, ee0, kk0⟩ : LH (oa.ob) (v 4) (lo 4) (hi' 4) w9 := rr0
     rw [ee0] at ss0
     refine gw_t rfl (wanted_plain rfl) 10 23 _ _ rfl (fun v w => by go_simp) ss0 ?_
     with_reducible refine (FRa.out w9 _ kk0 (HT.out.below hb)).mono ?_
     rintro e w3 ⟨rfl, hb3⟩
     exact ⟨_, rfl, _, rfl, hb3, rfl⟩
    | 6, _ =>
     obtain ⟨ss0, rr0, _⟩ := hw 2 (by omega) (by kernel_rfl)
     have ee0 : v 2 = .string ta := rr0
     rw [ee0] at ss0
     obtain ⟨ss1, rr1, _⟩ := hw 5 (by omega) (by kernel_rfl)
     have ee1 : v 5 = .string ta := rr1
     rw [ee1] at ss1
     exact gw_eqT rfl (wanted_plain rfl) 21 24 _ rfl ss0 ss1 ⟨_, rfl, Below.refl _ _, rfl⟩
    | 7, _ =>
     obtain ⟨ss0, rr0, _⟩ := hw 6 (by omega) (by kernel_rfl)
     have ee0 : v 6 = .bool true := rr0
     rw [ee0] at ss0
     exact gw_move rfl (wanted_plain rfl) 25 _ rfl ss0 ⟨_, rfl, Below.refl _ _, rfl⟩
    | 8, _ =>
     obtain ⟨s9, r9, _⟩ := hw 7 (by omega) (by kernel_rfl)
     have e9 : v 7 = .bool true := r9
     rw [e9] at s9
     exact gw_box rfl (wanted_on rfl rfl rfl s9 rfl) (.tmp 5) rfl (eval_of sl5) (BX.out.keep hb) ⟨_, rfl, Below.refl _ _, rfl⟩
    | 9, _ =>
     obtain ⟨s9, r9, _⟩ := hw 7 (by omega) (by kernel_rfl)
     have e9 : v 7 = .bool true := r9
     rw [e9] at s9
     obtain ⟨ss0, rr0, _⟩ := hw 8 (by omega) (by kernel_rfl)
     have ee0 : v 8 = vO ox px := rr0
     rw [ee0] at ss0
     refine gw_t rfl (wanted_on rfl rfl rfl s9 rfl) 8 27 _ _ rfl (fun v w => by go_simp) ss0 ?_
     with_reducible refine (FPx.out w9 _ (kx.out.below hb) (HT.out.below hb)).mono ?_
     rintro e w3 ⟨rfl, hb3⟩
     exact ⟨_, rfl, _, rfl, hb3, rfl⟩
    | 10, _ =>
     obtain ⟨s9, r9, _⟩ := hw 7 (by omega) (by kernel_rfl)
     have e9 : v 7 = .bool true := r9
     rw [e9] at s9
     exact gw_box rfl (wanted_on rfl rfl rfl s9 rfl) (.tmp 5) rfl (eval_of sl5) (BX.out.keep hb) ⟨_, rfl, Below.refl _ _, rfl⟩
    | 11, _ =>
     obtain ⟨s9, r9, _⟩ := hw 7 (by omega) (by kernel_rfl)
     have e9 : v 7 = .bool true := r9
     rw [e9] at s9
     obtain ⟨ss0, rr0, _⟩ := hw 10 (by omega) (by kernel_rfl)
     have ee0 : v 10 = vO ox px := rr0
     rw [ee0] at ss0
     refine gw_t rfl (wanted_on rfl rfl rfl s9 rfl) 10 29 _ _ rfl (fun v w => by go_simp) ss0 ?_
     with_reducible refine (FRx.out w9 _ (kx.out.below hb) (HT.out.below hb)).mono ?_
     rintro e w3 ⟨rfl, hb3⟩
     exact ⟨_, rfl, _, rfl, hb3, rfl⟩
    | 12, _ =>
     obtain ⟨s9, r9, _⟩ := hw 7 (by omega) (by kernel_rfl)
     have e9 : v 7 = .bool true := r9
     rw [e9] at s9
     obtain ⟨ss0, rr0, _⟩ := hw 9 (by omega) (by kernel_rfl)
     have ee0 : v 9 = .string tx := rr0
     rw [ee0] at ss0
     obtain ⟨ss1, rr1, _⟩ := hw 11 (by omega) (by kernel_rfl)
     have ee1 : v 11 = .string tx := rr1
     rw [ee1] at ss1
     exact gw_eqT rfl (wanted_on rfl rfl rfl s9 rfl) 28 30 _ rfl ss0 ss1 ⟨_, rfl, Below.refl _ _, rfl⟩
    | 13, _ =>
     obtain ⟨ss0, rr0, _⟩ := hw 7 (by omega) (by kernel_rfl)
     have ee0 : v 7 = .bool true := rr0
     rw [ee0] at ss0
     obtain ⟨ss1, rr1, _⟩ := hw 12 (by omega) (by kernel_rfl)
     have ee1 : v 12 = .bool true := rr1
     rw [ee1] at ss1
     exact gw_pickT rfl (wanted_plain rfl) 26 31 _ _ rfl ss0 ss1 ⟨_, rfl, Below.refl _ _, rfl⟩
    | k + 14, h => exact absurd h (by omega)
   case done =>
    intro a w9 v lo hi' hdef hsz hoth hb hj hap
    obtain ⟨_, hv13, _, _⟩ := hj 13 (by omega)
    change v 13 = _ at hv13
    have ha := eq_puts hdef hsz hoth (fun i hi => (hj i hi).1)
    subst ha
    clear hj hoth hdef hsz hap
    simp only [puts, List.getD_cons_zero, List.getD_cons_succ, hv13]
    generalize v 0 = v0
    generalize v 1 = v1
    generalize v 2 = v2
    generalize v 3 = v3
    generalize v 4 = v4
    generalize v 5 = v5
    generalize v 6 = v6
    generalize v 7 = v7
    generalize v 8 = v8
    generalize v 9 = v9
    generalize v 10 = v10
    generalize v 11 = v11
    generalize v 12 = v12
    clear hv13
    simp only [Act.put, List.setIfInBounds_toArray, List.set_cons_zero, List.set_cons_succ]
    show wpList _ _ _ [_] _ _
    replace HW := kW HW hb
    replace Bs := hI (Bs.out.keep hb)
    replace Br := hI (Br.out.keep hb)
    replace HT := kT HT hb
    replace kx := kH kx hb
    replace BX := kB BX hb
    clear hb
    go_wp2
    go_ret
    exact ⟨rfl, HW.out⟩
end Go.Proofs.YtocbedijpomemaaGreatDoor
