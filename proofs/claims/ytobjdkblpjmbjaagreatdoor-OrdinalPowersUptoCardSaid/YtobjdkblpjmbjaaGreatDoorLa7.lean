/- The walk of OrdinalPowers. -/
import Derived.Test.YtobjdkblpjmbjaaGreatDoorG19
import Derived.Test.YtobjdkblpjmbjaaGreatDoorG37
namespace Go.Proofs.YtobjdkblpjmbjaaGreatDoor
open Go Go.RowKit
set_option linter.unusedVariables false

set_option maxHeartbeats 16000000 in
set_option maxRecDepth 100000 in
theorem ordinalPowers_walk (s : Sd) (sc sd : Value) (t : Sd) (tc td : Value) (c : Int) (w : World) (As : SdAt w (Has w) s [sc, sd]) (Ns : s.cnt ≤ 1048576) (At : SdAt w (Has w) t [tc, td]) (Nt : t.cnt ≤ 1048576) (ic : I64 c) (ht : Tab w) :
 Calls Tryz.prog 5 #[.agg #[sc, sd], .agg #[tc, td], .int .i64 c] w (RetB w true) := by
 have HT := hI ht
 have FW : Hid (∀ X, Below w.heap.size w X → Calls Tryz.prog 13 #[.slice (some ⟨X.heap.size, 0, none⟩) 2 2] (X.alloc (.cells #[sc, sd, tc, td] 24)) (fun e w' => e = .returned (.bool (fewSd [s, t])) ∧ Below X.heap.size X w')) := fun X h => few2 s sc sd t tc td w X As Ns At Nt h
 have Ks : Hid (fewSd [s, t] = true → ∃ a : On, a.sm 45 3 84 ∧ ∀ X, Below w.heap.size w X → Calls Tryz.prog 15 #[.agg #[sc, sd]] X (RetH X a.ob)) := fun hf => madeK hf (by simp) As ht
 have Kt : Hid (fewSd [s, t] = true → ∃ a : On, a.sm 45 3 84 ∧ ∀ X, Below w.heap.size w X → Calls Tryz.prog 15 #[.agg #[tc, td]] X (RetH X a.ob)) := fun hf => madeK hf (by simp) At ht
 generalize fewSd [s, t] = fs at FW Ks Kt
 clear ht As Ns At Nt
 have MC : Hid (∀ X, Calls Tryz.prog 19 #[.int .i64 c, .int .i64 7] X (RetI X (((c % 7).toNat : Nat) : Int))) := fun X => modT c 7 X ic (by omega) (by omega)
 have hm : (c % 7).toNat < 7 := by omega
 generalize (c % 7).toNat = mc at MC hm
 obtain ⟨z, hz⟩ : ∃ z : Int, (mc : Int) - 2 = z := ⟨_, rfl⟩
 have hzb : -1000000 ≤ z ∧ z ≤ 1000000 := by omega
 have IC : Hid (∀ X, Tab X → Calls Tryz.prog 18 #[.int .i64 z] X (RetH X (.num (z : Rat)))) := fun X ht => (intO z X (Has X) (In.has X) (i64_small (by omega)) ht).mono fun _ _ h => h.h (In.has X)
 have bQ : Hid ((Ob.num (z : Rat)).bd 90) := bd_int (Nat.lt_of_lt_of_le (show z.natAbs < 10 ^ 1 by omega) (Nat.pow_le_pow_right (by omega) (by omega))) (by omega)
 generalize ((z : Int) : Rat) = q at IC bQ
 replace hz := hI hz
 replace hzb := hI hzb
 clear hm ic
 go_enter Tryz.func5, Tryz.ntmps5
 go_wp2_with fail
 have T := blk2 w (.cells #[sc, sd] 24) (.cells #[tc, td] 24)
 generalize ((w.alloc (.cells #[sc, sd] 24)).alloc (.cells #[tc, td] 24)) = W at T ⊢
 obtain ⟨TB, T0, T1⟩ := T
 have HW := hI TB
 have Bs : Hid (Sb W (w.heap.size) sc sd) := T0
 have Bt : Hid (Sb W (w.heap.size + 1) tc td) := T1
 replace HT := hI (HT.out.below TB)
 clear TB T0 T1
 with_reducible refine (firstO _ HT.out).mono ?_
 rintro e w1 ⟨rfl, hb⟩
 replace HW := kW HW hb
 replace Bs := hI (Bs.out.keep hb)
 replace Bt := hI (Bt.out.keep hb)
 replace HT := kT HT hb
 clear hb
 have cs0 := Bs.out.c0
 have cs1 := Bs.out.c1
 have ct0 := Bt.out.c0
 have ct1 := Bt.out.c1
 go_wp2_with fail
 clear cs0 cs1 ct0 ct1
 with_reducible refine (FW.out _ HW.out).mono ?_
 rintro e w2 ⟨rfl, hb⟩
 replace HW := kW HW hb
 replace Bs := hI (Bs.out.keep hb)
 replace Bt := hI (Bt.out.keep hb)
 replace HT := kT HT hb
 clear hb
 cases fs with
 | false =>
  go_wp2
  all_goals go_ret
  all_goals exact ⟨rfl, HW.out⟩
 | true =>
  obtain ⟨oa, sma, Ma⟩ := Ks.out (by simp)
  replace sma := hI sma
  replace Ma := hI Ma
  obtain ⟨ob, smb, Mb⟩ := Kt.out (by simp)
  replace smb := hI smb
  replace Mb := hI Mb
  clear Ks Kt
  go_wp2_with fail
  refine wp_region_grow (l := _) 11 (by kernel_rfl) (by kernel_rfl) (fun i => [21, 22, 23, 24, 25, 26, 27, 28, 7, 8, 9].getD i 0) (LR [LV (.agg #[sc, sd]), LH (oa.ob), LV (.agg #[tc, td]), LH (ob.ob), LV (.int .i64 c), LV (.int .i64 (mc : Int)), LV (.int .i64 z), LH ((.num q)), LBx, LBx, LBx]) (LR_mono ⟨mLV _, mLH _, mLV _, mLH _, mLV _, mLV _, mLV _, mLH _, mLBx, mLBx, mLBx, trivial⟩) (by
   intro i j hi hj h
   exact inj_getD [21, 22, 23, 24, 25, 26, 27, 28, 7, 8, 9] (by decide) i j hi hj h) (by
   intro i hi
   exact lt_getD 51 [21, 22, 23, 24, 25, 26, 27, 28, 7, 8, 9] (by decide) i hi) ?step ?done
  case step =>
   intro i hi a w9 v lo hi' hoth hb hw
   have sl3 : a.tmps[3]? = some (.pointer (some ⟨w.heap.size, 0, none⟩)) := (hoth 3 (fun j hj => ne_getD 3 _ (by decide) j hj)).trans rfl
   have sl4 : a.tmps[4]? = some (.pointer (some ⟨w.heap.size + 1, 0, none⟩)) := (hoth 4 (fun j hj => ne_getD 4 _ (by decide) j hj)).trans rfl
   have sl2 : a.tmps[2]? = some (.int .i64 c) := (hoth 2 (fun j hj => ne_getD 2 _ (by decide) j hj)).trans rfl
   match i, hi with
   | 0, _ =>
    exact gr_seed rfl rfl (.tmp 3) rfl (eval_of sl3) (Bs.out.keep hb) ⟨_, rfl, Below.refl _ _, rfl⟩
   | 1, _ =>
    obtain ⟨s0, r0, _⟩ := hw 0 (by omega) (by kernel_rfl)
    have e0 : v 0 = .agg #[sc, sd] := r0
    rw [e0] at s0
    refine gr_t rfl rfl 15 21 _ _ rfl (fun v w => by go_simp) s0 ?_
    with_reducible refine (Ma.out w9 (chain2 HW.out hb (Nat.le_refl _))).mono ?_
    rintro e w3 ⟨p, rfl, hp, hb3⟩
    exact ⟨_, rfl, _, rfl, hb3, p, rfl, hp⟩
   | 2, _ =>
    exact gr_seed rfl rfl (.tmp 4) rfl (eval_of sl4) (Bt.out.keep hb) ⟨_, rfl, Below.refl _ _, rfl⟩
   | 3, _ =>
    obtain ⟨s0, r0, _⟩ := hw 2 (by omega) (by kernel_rfl)
    have e0 : v 2 = .agg #[tc, td] := r0
    rw [e0] at s0
    refine gr_t rfl rfl 15 23 _ _ rfl (fun v w => by go_simp) s0 ?_
    with_reducible refine (Mb.out w9 (chain2 HW.out hb (Nat.le_refl _))).mono ?_
    rintro e w3 ⟨p, rfl, hp, hb3⟩
    exact ⟨_, rfl, _, rfl, hb3, p, rfl, hp⟩
   | 4, _ =>
    exact gr_move rfl rfl 2 _ rfl sl2 ⟨_, rfl, Below.refl _ _, rfl⟩
   | 5, _ =>
    obtain ⟨s0, r0, _⟩ := hw 4 (by omega) (by kernel_rfl)
    have e0 : v 4 = .int .i64 c := r0
    rw [e0] at s0
    refine gr_tc rfl rfl 19 25 _ _ _ rfl (fun v u w => by go_simp) s0 ?_
    with_reducible refine (MC.out w9).mono ?_
    rintro e w3 ⟨rfl, hb3⟩
    exact ⟨_, rfl, _, rfl, hb3, rfl⟩
   | 6, _ =>
    obtain ⟨s0, r0, _⟩ := hw 5 (by omega) (by kernel_rfl)
    have e0 : v 5 = .int .i64 (mc : Int) := r0
    rw [e0] at s0
    exact gr_subc rfl rfl 26 (mc : Int) 2 z hz.out hzb.out rfl s0 ⟨_, rfl, Below.refl _ _, rfl⟩
   | 7, _ =>
    obtain ⟨s0, r0, _⟩ := hw 6 (by omega) (by kernel_rfl)
    have e0 : v 6 = .int .i64 z := r0
    rw [e0] at s0
    refine gr_t rfl rfl 18 27 _ _ rfl (fun v w => by go_simp) s0 ?_
    with_reducible refine (IC.out w9 (HT.out.below hb)).mono ?_
    rintro e w3 ⟨p, rfl, hp, hb3⟩
    exact ⟨_, rfl, _, rfl, hb3, p, rfl, hp⟩
   | 8, _ =>
    exact grow_allocO rfl rfl rfl ⟨_, rfl, Below.alloc (Below.refl _ _) (Nat.le_refl _) _, rfl, heap_alloc_new _ _, by simp⟩
   | 9, _ =>
    exact grow_allocO rfl rfl rfl ⟨_, rfl, Below.alloc (Below.refl _ _) (Nat.le_refl _) _, rfl, heap_alloc_new _ _, by simp⟩
   | 10, _ =>
    exact grow_allocO rfl rfl rfl ⟨_, rfl, Below.alloc (Below.refl _ _) (Nat.le_refl _) _, rfl, heap_alloc_new _ _, by simp⟩
  case done =>
   intro a w9 v lo hi' hdef hsz hoth hb hj hap
   obtain ⟨_, ⟨pa, hv1, ka⟩, hlo1, hhi1⟩ := hj 1 (by omega)
   obtain ⟨_, ⟨pb, hv3, kb⟩, hlo3, hhi3⟩ := hj 3 (by omega)
   obtain ⟨_, ⟨pq, hv7, kq⟩, hlo7, hhi7⟩ := hj 7 (by omega)
   obtain ⟨_, ⟨hv8, Z8, hlt8⟩, hlo8, hhi8⟩ := hj 8 (by omega)
   obtain ⟨_, ⟨hv9, Z9, hlt9⟩, hlo9, hhi9⟩ := hj 9 (by omega)
   obtain ⟨_, ⟨hv10, Z10, hlt10⟩, hlo10, hhi10⟩ := hj 10 (by omega)
   have ha := eq_puts hdef hsz hoth (fun i hi => (hj i hi).1)
   subst ha
   clear hj hoth hdef hsz
   simp only [puts, List.getD_cons_zero, List.getD_cons_succ, hv1, hv3, hv7, hv8, hv9, hv10]
   generalize v 0 = v0
   generalize v 2 = v2
   generalize v 4 = v4
   generalize v 5 = v5
   generalize v 6 = v6
   clear hv1 hv3 hv7 hv8 hv9 hv10
   simp only [Act.put, List.setIfInBounds_toArray, List.set_cons_zero, List.set_cons_succ]
   show wpList _ _ _ [_, _, _] _ _
   have n01 := hap 8 9 (by omega) (by omega) (by decide)
   have n02 := hap 8 10 (by omega) (by omega) (by decide)
   have n12 := hap 9 10 (by omega) (by omega) (by decide)
   clear hap
   generalize lo 8 = g8 at *
   generalize hi' 8 = e8 at *
   generalize lo 9 = g9 at *
   generalize hi' 9 = e9 at *
   generalize lo 10 = g10 at *
   generalize hi' 10 = e10 at *
   refine storeB (w1 := w9) (g := g8) (b := oa.ob) (p := pa) (.tmp 7) (.tmp 22) rfl rfl rfl rfl ka Z8 ?_
   refine storeB (w1 := w9) (g := g9) (b := ob.ob) (p := pb) (.tmp 8) (.tmp 24) rfl rfl rfl rfl kb (Z9.other (by omega)) ?_
   refine storeB (w1 := w9) (g := g10) (b := (.num q)) (p := pq) (.tmp 9) (.tmp 28) rfl rfl rfl rfl kq ((Z10.other (by omega)).other (by omega)) ?_
   have P := Fill3.new hb Z8 ka hlo8 Z9 kb hlo9 Z10 kq hlo10 (by omega) (by omega) (by omega)
   generalize (World.setRow (World.setRow (World.setRow w9 g8 (cellsO (oa.ob) pa).toArray) g9 (cellsO (ob.ob) pb).toArray) g10 (cellsO ((.num q)) pq).toArray) = XM at P ⊢
   clear hb ka Z8 kb Z9 kq Z10
   have hb := P.bel
   replace HW := kW HW hb
   replace Bs := hI (Bs.out.keep hb)
   replace Bt := hI (Bt.out.keep hb)
   replace HT := kT HT hb
   have GA := hI P.b0
   have ka := hI P.k0
   have GB := hI P.b1
   have kb := hI P.k1
   have GQ := hI P.b2
   have kq := hI P.k2
   clear hb P
   have bN : Hid (Ob.bd 90 (.cons (.cons oa.ob (.num q)) ob.ob)) := ⟨⟨On.ob_bd sma.out.bd (by omega), bQ.out⟩, On.ob_bd smb.out.bd (by omega)⟩
   have nN : Hid (Ob.nodes (.cons (.cons oa.ob (.num q)) ob.ob) ≤ 3000) := by
    have h1 : oa.ob.nodes ≤ 45 := by rw [On.nd_ob]; exact sma.out.nd
    have h2 : ob.ob.nodes ≤ 45 := by rw [On.nd_ob]; exact smb.out.nd
    show 1 + (1 + oa.ob.nodes + 1) + ob.ob.nodes ≤ 3000
    omega
   have CP : Hid (∀ X pe pc pr, Hd X oa.ob pe → Hd X (.num q) pc → Hd X ob.ob pr → Tab X → Calls Tryz.prog 31 #[vO oa.ob pe, vO (.num q) pc, vO ob.ob pr] X (RetOB X (if (ordOf (.cons (.cons oa.ob (.num q)) ob.ob)).isSome then some (.cons (.cons oa.ob (.num q)) ob.ob) else none))) := fun X pe pc pr h1 h2 h3 h4 => powerH oa.ob (.num q) ob.ob pe pc pr X bN.out nN.out h1 h2 h3 h4
   have CR : Hid (∀ X pe pc pr, Hd X oa.ob pe → Hd X (.num q) pc → Hd X ob.ob pr → Tab X → Calls Tryz.prog 32 #[vO oa.ob pe, vO (.num q) pc, vO ob.ob pr] X (RetOB X (if (ordOf (.cons (.cons oa.ob (.num q)) ob.ob)).isSome then some (.cons (.cons oa.ob (.num q)) ob.ob) else none))) := fun X pe pc pr h1 h2 h3 h4 => powerRT oa.ob (.num q) ob.ob pe pc pr X bN.out nN.out h1 h2 h3 h4
   cases ho : (ordOf (.cons (.cons oa.ob (.num q)) ob.ob)).isSome with
   | false =>
    rw [ho, if_neg (by simp)] at CP CR
    replace CP := hI CP.out
    replace CR := hI CR.out
    clear ho
    go_wp2_with (first | (with_reducible refine lG (.tmp 7) GA.out ?_) | (with_reducible refine lG (.tmp 8) GB.out ?_) | (with_reducible refine lG (.tmp 9) GQ.out ?_))
    with_reducible refine (CP.out _ _ _ _ ka.out kq.out kb.out HT.out).mono ?_
    rintro e w3 ⟨rfl, hb⟩
    replace HW := kW HW hb
    replace Bs := hI (Bs.out.keep hb)
    replace Bt := hI (Bt.out.keep hb)
    replace HT := kT HT hb
    replace GA := kB GA hb
    replace ka := kH ka hb
    replace GB := kB GB hb
    replace kb := kH kb hb
    replace GQ := kB GQ hb
    replace kq := kH kq hb
    clear hb
    have T := hI (Bx1.new w3 #[.int .i64 0, .string ⟨#[]⟩, .string ⟨#[]⟩, .string ⟨#[]⟩, .string ⟨#[]⟩, .string ⟨#[]⟩, .slice none 0 0])
    go_wp2_with (first | ((with_reducible refine storeZ (g := w3.heap.size) (.tmp 10) (.tmp 34) ?_ ?_ ?_ ?_ T.out.b0 ?_); rfl; rfl; rfl; rfl; have P := PtZ.new (w := w3) (z := #[.int .i64 0, .string ⟨#[]⟩, .string ⟨#[]⟩, .string ⟨#[]⟩, .string ⟨#[]⟩, .string ⟨#[]⟩, .slice none 0 0]); generalize World.setRow (w3.alloc (.cells #[.int .i64 0, .string ⟨#[]⟩, .string ⟨#[]⟩, .string ⟨#[]⟩, .string ⟨#[]⟩, .string ⟨#[]⟩, .slice none 0 0] 35)) w3.heap.size zeroC = X3 at P ⊢; have hb := P.bel; replace HW := kW HW hb; replace Bs := hI (Bs.out.keep hb); replace Bt := hI (Bt.out.keep hb); replace HT := kT HT hb; replace GA := kB GA hb; replace ka := kH ka hb; replace GB := kB GB hb; replace kb := kH kb hb; replace GQ := kB GQ hb; replace kq := kH kq hb; have Z1 := hI P.b0; clear P hb T) | (with_reducible refine lG (.tmp 7) GA.out ?_) | (with_reducible refine lG (.tmp 8) GB.out ?_) | (with_reducible refine lG (.tmp 9) GQ.out ?_))
    with_reducible refine (CR.out _ _ _ _ ka.out kq.out kb.out HT.out).mono ?_
    rintro e w4 ⟨rfl, hb⟩
    replace HW := kW HW hb
    replace Bs := hI (Bs.out.keep hb)
    replace Bt := hI (Bt.out.keep hb)
    replace HT := kT HT hb
    replace GA := kB GA hb
    replace ka := kH ka hb
    replace GB := kB GB hb
    replace kb := kH kb hb
    replace GQ := kB GQ hb
    replace kq := kH kq hb
    replace Z1 := kB Z1 hb
    clear hb
    have T := hI (Bx1.new w4 #[.int .i64 0, .string ⟨#[]⟩, .string ⟨#[]⟩, .string ⟨#[]⟩, .string ⟨#[]⟩, .string ⟨#[]⟩, .slice none 0 0])
    go_wp2_with (first | ((with_reducible refine storeZ (g := w4.heap.size) (.tmp 12) (.tmp 41) ?_ ?_ ?_ ?_ T.out.b0 ?_); rfl; rfl; rfl; rfl; have P := PtZ.new (w := w4) (z := #[.int .i64 0, .string ⟨#[]⟩, .string ⟨#[]⟩, .string ⟨#[]⟩, .string ⟨#[]⟩, .string ⟨#[]⟩, .slice none 0 0]); generalize World.setRow (w4.alloc (.cells #[.int .i64 0, .string ⟨#[]⟩, .string ⟨#[]⟩, .string ⟨#[]⟩, .string ⟨#[]⟩, .string ⟨#[]⟩, .slice none 0 0] 35)) w4.heap.size zeroC = X4 at P ⊢; have hb := P.bel; replace HW := kW HW hb; replace Bs := hI (Bs.out.keep hb); replace Bt := hI (Bt.out.keep hb); replace HT := kT HT hb; replace GA := kB GA hb; replace ka := kH ka hb; replace GB := kB GB hb; replace kb := kH kb hb; replace GQ := kB GQ hb; replace kq := kH kq hb; replace Z1 := kB Z1 hb; have Z2 := hI P.b0; clear P hb T) | ((with_reducible refine loadZ (.tmp 10) ?_ ?_ ?_ Z1.out ?_); rfl; rfl; rfl) | ((with_reducible refine loadZG (.tmp 10) ?_ ?_ ?_ Z1.out ?_); rfl; rfl; rfl) | ((with_reducible refine loadZ (.tmp 12) ?_ ?_ ?_ Z2.out ?_); rfl; rfl; rfl) | ((with_reducible refine loadZG (.tmp 12) ?_ ?_ ?_ Z2.out ?_); rfl; rfl; rfl) | (with_reducible refine lG (.tmp 7) GA.out ?_) | (with_reducible refine lG (.tmp 8) GB.out ?_) | (with_reducible refine lG (.tmp 9) GQ.out ?_))
    with_reducible refine (equalZ _).mono ?_
    rintro e w5 ⟨rfl, hb⟩
    replace HW := kW HW hb
    replace Bs := hI (Bs.out.keep hb)
    replace Bt := hI (Bt.out.keep hb)
    replace HT := kT HT hb
    replace GA := kB GA hb
    replace ka := kH ka hb
    replace GB := kB GB hb
    replace kb := kH kb hb
    replace GQ := kB GQ hb
    replace kq := kH kq hb
    replace Z1 := kB Z1 hb
    replace Z2 := kB Z2 hb
    clear hb
    go_wp2_with (first | (with_reducible refine lG (.tmp 7) GA.out ?_) | (with_reducible refine lG (.tmp 8) GB.out ?_) | (with_reducible refine lG (.tmp 9) GQ.out ?_))
    go_ret
    exact ⟨rfl, HW.out⟩
   | true =>
    rw [ho, if_pos rfl] at CP CR
    replace CP := hI CP.out
    replace CR := hI CR.out
    clear ho
    go_wp2_with (first | (with_reducible refine lG (.tmp 7) GA.out ?_) | (with_reducible refine lG (.tmp 8) GB.out ?_) | (with_reducible refine lG (.tmp 9) GQ.out ?_))
    with_reducible refine (CP.out _ _ _ _ ka.out kq.out kb.out HT.out).mono ?_
    rintro e w3 ⟨q1, rfl, k1, hb⟩
    replace HW := kW HW hb
    replace Bs := hI (Bs.out.keep hb)
    replace Bt := hI (Bt.out.keep hb)
    replace HT := kT HT hb
    replace GA := kB GA hb
    replace ka := kH ka hb
    replace GB := kB GB hb
    replace kb := kH kb hb
    replace GQ := kB GQ hb
    replace kq := kH kq hb
    clear hb
    replace k1 := hI k1
    have T := hI (Bx1.new w3 #[.int .i64 0, .string ⟨#[]⟩, .string ⟨#[]⟩, .string ⟨#[]⟩, .string ⟨#[]⟩, .string ⟨#[]⟩, .slice none 0 0])
    go_wp2_with (first | ((with_reducible refine storeB (w1 := w3) (g := w3.heap.size) (b := (.cons (.cons oa.ob (.num q)) ob.ob)) (p := q1) (.tmp 10) (.tmp 34) ?_ ?_ ?_ ?_ k1.out T.out.b0 ?_); rfl; rfl; rfl; rfl; have P := Pt1.new (w := w3) (o := (.cons (.cons oa.ob (.num q)) ob.ob)) (p := q1) (z := #[.int .i64 0, .string ⟨#[]⟩, .string ⟨#[]⟩, .string ⟨#[]⟩, .string ⟨#[]⟩, .string ⟨#[]⟩, .slice none 0 0]); generalize World.setRow (w3.alloc (.cells #[.int .i64 0, .string ⟨#[]⟩, .string ⟨#[]⟩, .string ⟨#[]⟩, .string ⟨#[]⟩, .string ⟨#[]⟩, .slice none 0 0] 35)) w3.heap.size (cellsO ((.cons (.cons oa.ob (.num q)) ob.ob)) q1).toArray = X3 at P ⊢; have hb := P.bel; replace HW := kW HW hb; replace Bs := hI (Bs.out.keep hb); replace Bt := hI (Bt.out.keep hb); replace HT := kT HT hb; replace GA := kB GA hb; replace ka := kH ka hb; replace GB := kB GB hb; replace kb := kH kb hb; replace GQ := kB GQ hb; replace kq := kH kq hb; replace k1 := kH k1 hb; have G1 := hI P.b0; clear P hb T) | (with_reducible refine lG (.tmp 7) GA.out ?_) | (with_reducible refine lG (.tmp 8) GB.out ?_) | (with_reducible refine lG (.tmp 9) GQ.out ?_) | (with_reducible refine lG (.tmp 10) G1.out ?_))
    with_reducible refine (CR.out _ _ _ _ ka.out kq.out kb.out HT.out).mono ?_
    rintro e w4 ⟨q2, rfl, k2, hb⟩
    replace HW := kW HW hb
    replace Bs := hI (Bs.out.keep hb)
    replace Bt := hI (Bt.out.keep hb)
    replace HT := kT HT hb
    replace GA := kB GA hb
    replace ka := kH ka hb
    replace GB := kB GB hb
    replace kb := kH kb hb
    replace GQ := kB GQ hb
    replace kq := kH kq hb
    replace k1 := kH k1 hb
    replace G1 := kB G1 hb
    clear hb
    replace k2 := hI k2
    have T := hI (Bx1.new w4 #[.int .i64 0, .string ⟨#[]⟩, .string ⟨#[]⟩, .string ⟨#[]⟩, .string ⟨#[]⟩, .string ⟨#[]⟩, .slice none 0 0])
    go_wp2_with (first | ((with_reducible refine storeB (w1 := w4) (g := w4.heap.size) (b := (.cons (.cons oa.ob (.num q)) ob.ob)) (p := q2) (.tmp 12) (.tmp 41) ?_ ?_ ?_ ?_ k2.out T.out.b0 ?_); rfl; rfl; rfl; rfl; have P := Pt1.new (w := w4) (o := (.cons (.cons oa.ob (.num q)) ob.ob)) (p := q2) (z := #[.int .i64 0, .string ⟨#[]⟩, .string ⟨#[]⟩, .string ⟨#[]⟩, .string ⟨#[]⟩, .string ⟨#[]⟩, .slice none 0 0]); generalize World.setRow (w4.alloc (.cells #[.int .i64 0, .string ⟨#[]⟩, .string ⟨#[]⟩, .string ⟨#[]⟩, .string ⟨#[]⟩, .string ⟨#[]⟩, .slice none 0 0] 35)) w4.heap.size (cellsO ((.cons (.cons oa.ob (.num q)) ob.ob)) q2).toArray = X4 at P ⊢; have hb := P.bel; replace HW := kW HW hb; replace Bs := hI (Bs.out.keep hb); replace Bt := hI (Bt.out.keep hb); replace HT := kT HT hb; replace GA := kB GA hb; replace ka := kH ka hb; replace GB := kB GB hb; replace kb := kH kb hb; replace GQ := kB GQ hb; replace kq := kH kq hb; replace k1 := kH k1 hb; replace G1 := kB G1 hb; replace k2 := kH k2 hb; have G2 := hI P.b0; clear P hb T) | (with_reducible refine lG (.tmp 7) GA.out ?_) | (with_reducible refine lG (.tmp 8) GB.out ?_) | (with_reducible refine lG (.tmp 9) GQ.out ?_) | (with_reducible refine lG (.tmp 10) G1.out ?_) | (with_reducible refine lG (.tmp 12) G2.out ?_))
    with_reducible refine (equalH _ _ _ _ _ true (decide_eq_true rfl) k1.out k2.out).mono ?_
    rintro e w5 ⟨rfl, hb⟩
    replace HW := kW HW hb
    replace Bs := hI (Bs.out.keep hb)
    replace Bt := hI (Bt.out.keep hb)
    replace HT := kT HT hb
    replace GA := kB GA hb
    replace ka := kH ka hb
    replace GB := kB GB hb
    replace kb := kH kb hb
    replace GQ := kB GQ hb
    replace kq := kH kq hb
    replace k1 := kH k1 hb
    replace G1 := kB G1 hb
    replace k2 := kH k2 hb
    replace G2 := kB G2 hb
    clear hb
    go_wp2_with (first | (with_reducible refine lG (.tmp 7) GA.out ?_) | (with_reducible refine lG (.tmp 8) GB.out ?_) | (with_reducible refine lG (.tmp 9) GQ.out ?_) | (with_reducible refine lG (.tmp 10) G1.out ?_) | (with_reducible refine lG (.tmp 12) G2.out ?_))
    go_ret
    exact ⟨rfl, HW.out⟩
end Go.Proofs.YtobjdkblpjmbjaaGreatDoor
