import Derived.Test.YtbffnoodpoagcaaGreatDoorAl
import Derived.Test.YtbffnoodpoagcaaGreatDoorG25
namespace Go.Proofs.YtbffnoodpoagcaaGreatDoor
open Go Go.RowKit
set_option linter.unusedVariables false
theorem fv1 : appV true (some 23) [.str (LA ⟨#[97, 98]⟩), inO 1] = (some (inO 98), 0) := by kernel_rfl
theorem fv2 : appV true (some 13) [inO 0] = (some (inO 0), 0) := by kernel_rfl
theorem pw2 : primV 13 [inO 0] = inO 0 := by kernel_rfl
theorem pw1 : primV 23 [.str (LA ⟨#[97, 98]⟩), inO 1] = inO 98 := by kernel_rfl
theorem fv3 : grdV (some 3) [inO 5] = false := by kernel_rfl
theorem fineI {n : Int} (h : n.natAbs < 10 ^ 10) : Fine (inO n) := ⟨(bd_int (k := 10) h (by decide)).more (by decide), by show 1 ≤ 1000; decide⟩
theorem intsI {n : Int} (h : I64 n) : IntO (inO n) := fun q e => by
 have e2 : (n : Rat) = q := by injection e
 subst e2
 rw [Rat.num_intCast]
 exact h
theorem fineS {s : List UInt8} (h : s.length ≤ 200) : Fine (.str s) := ⟨h, by show 1 ≤ 1000; decide⟩
theorem intsS {s : List UInt8} : IntO (.str s) := fun q e => by cases e
set_option maxHeartbeats 16000000 in
set_option maxRecDepth 100000 in
theorem first7 (w : World) (ht : Tab w) : Calls Tryz.prog 8 #[] w (RetB w true) := by
 have CA1 : Hid (∀ W v, Ar W [.str (LA ⟨#[97, 98]⟩), inO 1] v → Tab W → Calls Tryz.prog 17 #[.agg #[.string (BA lispB), .string ⟨#[115, 116, 114, 105, 110, 103, 45, 98, 121, 116, 101]⟩], v] W (fun e w' => ∃ p, e = .returned (.tuple #[vO (inO 98) p, .int .i64 0]) ∧ Hd w' (inO 98) p ∧ Below W.heap.size W w')) := fun W v hv hT => by
  have h := applyPall (BA lispB) (nmS 23) _ v W hv true hT (fun o ho => by
   rcases List.mem_cons.1 ho with rfl | ho
   · exact fineS (by decide)
   · rw [List.mem_singleton] at ho; subst ho; exact fineI (by decide)) (fun j hj _ o ho => by
   rcases List.mem_cons.1 ho with rfl | ho
   · exact intsS
   · rw [List.mem_singleton] at ho; subst ho; exact intsI (by constructor <;> decide)) (fun j hj _ W q hq _ => by
   rw [fnd_at 23 (by decide)] at hj; injection hj with hj; subst hj
   rw [pw1] at hq ⊢
   exact validGP _ q W (good_in (n := 98) (k := 10) (by decide) (by decide)) hq)
  rw [fnd_at 23 (by decide), fv1] at h
  exact h
 have CA2 : Hid (∀ W v, Ar W [inO 0] v → Tab W → Calls Tryz.prog 17 #[.agg #[.string (BA lispB), .string ⟨#[117, 110, 97, 114, 121, 45, 47]⟩], v] W (fun e w' => ∃ p, e = .returned (.tuple #[vO (inO 0) p, .int .i64 0]) ∧ Hd w' (inO 0) p ∧ Below W.heap.size W w')) := fun W v hv hT => by
  have h := applyPall (BA lispB) (nmS 13) _ v W hv true hT (fun o ho => by rw [List.mem_singleton] at ho; subst ho; exact fineI (by decide)) (fun j hj _ o ho => by rw [List.mem_singleton] at ho; subst ho; exact intsI (by constructor <;> decide)) (fun j hj _ W q hq _ => by
   rw [fnd_at 13 (by decide)] at hj; injection hj with hj; subst hj
   rw [pw2] at hq ⊢
   exact validGP _ q W (good_in (n := 0) (k := 10) (by decide) (by decide)) hq)
  rw [fnd_at 13 (by decide), fv2] at h
  exact h
 have CG : Hid (∀ W v, Ar W [inO 5] v → Tab W → Calls Tryz.prog 32 #[.agg #[.string (BA lispB), .string ⟨#[99, 97, 114]⟩], v] W (RetB W false)) := fun W v hv hT => by
  have h := guardPall (BA lispB) (nmS 3) _ v W hv hT (fun o ho => by rw [List.mem_singleton] at ho; subst ho; exact fineI (by decide)) (fun j hj _ o ho => by rw [List.mem_singleton] at ho; subst ho; exact intsI (by constructor <;> decide))
  rw [fnd_at 3 (by decide), fv3] at h
  exact h
 have CR : Hid (∀ W, Calls Tryz.prog 31 #[.agg #[.string (BA lispB), .string ⟨#[105, 102]⟩]] W (RetIB W 3 true)) := fun W => by
  have h := arityP (BA lispB) (nmS 0) W
  rw [fnd_at 0 (by decide)] at h
  exact h
 have CI0 : Hid (∀ W, Tab W → Calls Tryz.prog 10 #[.int .i64 0] W (RetH W (inO 0))) := fun W hT => intRH 0 W (i64_small (by decide)) hT
 have CI1 : Hid (∀ W, Tab W → Calls Tryz.prog 10 #[.int .i64 1] W (RetH W (inO 1))) := fun W hT => intRH 1 W (i64_small (by decide)) hT
 have CI5 : Hid (∀ W, Tab W → Calls Tryz.prog 10 #[.int .i64 5] W (RetH W (inO 5))) := fun W hT => intRH 5 W (i64_small (by decide)) hT
 have CI98 : Hid (∀ W, Tab W → Calls Tryz.prog 10 #[.int .i64 98] W (RetH W (inO 98))) := fun W hT => intRH 98 W (i64_small (by decide)) hT
 have CT : Hid (∀ W, Calls Tryz.prog 9 #[.string ⟨#[97, 98]⟩] W (RetH W (.str (LA ⟨#[97, 98]⟩)))) := fun W => textRH _ W
 have CL : Hid (∀ s W, Calls Tryz.prog 18 #[.string s] W (RetY W (.agg #[.string (BA lispB), .string s]))) := fun s W => lispO s W
 have CE : Hid (∀ (x : Ob) W p q, Hd W x p → Hd W x q → Calls Tryz.prog 12 #[vO x p, vO x q] W (RetB W true)) := fun x W p q h1 h2 => by
  have h := equalO x x p q W (Has W) (In.has W) h1 h2
  rw [decide_eq_true rfl] at h
  exact h
 generalize Ob.str (LA ⟨#[97, 98]⟩) = sAB at *
 generalize inO 98 = i98 at *
 generalize inO 0 = i0 at *
 generalize inO 1 = i1 at *
 generalize inO 5 = i5 at *
 generalize BA lispB = L at *
 have HT := qh9 ht
 have HW := qh9 (Below.refl w.heap.size w)
 clear ht
 go_enter Tryz.func8, Tryz.ntmps8
 go_wp2_with fail
 with_reducible refine (CL.out _ _).mono ?_
 rintro e w1 ⟨rfl, hb⟩
 replace HT := qh9 (HT.out.below hb)
 replace HW := qc9 HW hb
 clear hb
 go_wp2_with fail
 with_reducible refine (CT.out _).mono ?_
 rintro e w2 ⟨pt, rfl, kt, hb⟩
 replace HT := qh9 (HT.out.below hb)
 replace HW := qc9 HW hb
 clear hb
 replace kt := qh9 kt
 go_wp2_with fail
 with_reducible refine (CI1.out _ HT.out).mono ?_
 rintro e w3 ⟨pi, rfl, ki, hb⟩
 replace HT := qh9 (HT.out.below hb)
 replace HW := qc9 HW hb
 replace kt := qh9 (kt.out.below hb)
 clear hb
 replace ki := qh9 ki
 obtain ⟨c0, c1, c2, c3, c4, c5, ec⟩ := cells7 sAB pt
 rw [show vO sAB pt = .agg #[c0, c1, c2, c3, c4, c5, pt] from congrArg (fun l : List Value => Value.agg l.toArray) ec]
 obtain ⟨d0, d1, d2, d3, d4, d5, ed⟩ := cells7 i1 pi
 rw [show vO i1 pi = .agg #[d0, d1, d2, d3, d4, d5, pi] from congrArg (fun l : List Value => Value.agg l.toArray) ed]
 go_wp2_with fail
 have hb : Below w3.heap.size w3 (w3.alloc (.cells #[c0, c1, c2, c3, c4, c5, pt, d0, d1, d2, d3, d4, d5, pi] 27)) := Below.alloc (Below.refl _ _) (Nat.le_refl _) _
 have hA0 : Ar (w3.alloc (.cells #[c0, c1, c2, c3, c4, c5, pt, d0, d1, d2, d3, d4, d5, pi] 27)) [sAB, i1] (.slice (some ⟨w3.heap.size, 0, none⟩) 2 2) := by
  have h := ar_new2 kt.out ki.out
  rw [ec, ed] at h
  exact h
 generalize w3.alloc (.cells #[c0, c1, c2, c3, c4, c5, pt, d0, d1, d2, d3, d4, d5, pi] 27) = Y1 at hb hA0 ⊢
 replace HT := qh9 (HT.out.below hb)
 replace HW := qc9 HW hb
 replace kt := qh9 (kt.out.below hb)
 replace ki := qh9 (ki.out.below hb)
 have HA := qh9 hA0
 clear hb hA0
 with_reducible refine (CA1.out _ _ HA.out HT.out).mono ?_
 rintro e w4 ⟨p1, rfl, k1, hb⟩
 replace HT := qh9 (HT.out.below hb)
 replace HW := qc9 HW hb
 replace kt := qh9 (kt.out.below hb)
 replace ki := qh9 (ki.out.below hb)
 clear hb HA
 replace k1 := qh9 k1
 have N1 := qh9 (Bx1.new w4 #[.int .i64 0, .string ⟨#[]⟩, .string ⟨#[]⟩, .string ⟨#[]⟩, .string ⟨#[]⟩, .string ⟨#[]⟩, .slice none 0 0])
 go_upto_region 2 with ((with_reducible refine storeB (w1 := w4) (g := w4.heap.size) (b := i98) (p := p1) (.tmp 1) (.tmp 13) ?_ ?_ ?_ ?_ k1.out N1.out.b0 ?_); rfl; rfl; rfl; rfl)
 have Q := Pt1.new (w := w4) (o := i98) (p := p1) (z := #[.int .i64 0, .string ⟨#[]⟩, .string ⟨#[]⟩, .string ⟨#[]⟩, .string ⟨#[]⟩, .string ⟨#[]⟩, .slice none 0 0])
 generalize World.setRow (w4.alloc (.cells #[.int .i64 0, .string ⟨#[]⟩, .string ⟨#[]⟩, .string ⟨#[]⟩, .string ⟨#[]⟩, .string ⟨#[]⟩, .slice none 0 0] 27)) w4.heap.size (cellsO (i98) p1).toArray = X4 at Q ⊢
 have hb := Q.bel
 replace HT := qh9 (HT.out.below hb)
 replace HW := qc9 HW hb
 replace kt := qh9 (kt.out.below hb)
 replace ki := qh9 (ki.out.below hb)
 replace k1 := qh9 (k1.out.below hb)
 have G1 := qh9 Q.b0
 clear hb Q N1
 go_wp2_with fail
 with_reducible refine (CL.out _ _).mono ?_
 rintro e w5 ⟨rfl, hb⟩
 replace HT := qh9 (HT.out.below hb)
 replace HW := qc9 HW hb
 replace kt := qh9 (kt.out.below hb)
 replace ki := qh9 (ki.out.below hb)
 replace k1 := qh9 (k1.out.below hb)
 replace G1 := qh9 (G1.out.keep hb)
 clear hb
 go_wp2_with fail
 with_reducible refine (CI0.out _ HT.out).mono ?_
 rintro e w6 ⟨pj, rfl, kj, hb⟩
 replace HT := qh9 (HT.out.below hb)
 replace HW := qc9 HW hb
 replace kt := qh9 (kt.out.below hb)
 replace ki := qh9 (ki.out.below hb)
 replace k1 := qh9 (k1.out.below hb)
 replace G1 := qh9 (G1.out.keep hb)
 clear hb
 replace kj := qh9 kj
 obtain ⟨f0, f1, f2, f3, f4, f5, ef⟩ := cells7 i0 pj
 rw [show vO i0 pj = .agg #[f0, f1, f2, f3, f4, f5, pj] from congrArg (fun l : List Value => Value.agg l.toArray) ef]
 go_wp2_with fail
 have hb : Below w6.heap.size w6 (w6.alloc (.cells #[f0, f1, f2, f3, f4, f5, pj] 27)) := Below.alloc (Below.refl _ _) (Nat.le_refl _) _
 have hA0 : Ar (w6.alloc (.cells #[f0, f1, f2, f3, f4, f5, pj] 27)) [i0] (.slice (some ⟨w6.heap.size, 0, none⟩) 1 1) := by
  have h := ar_new1 kj.out
  rw [ef] at h
  exact h
 generalize w6.alloc (.cells #[f0, f1, f2, f3, f4, f5, pj] 27) = Y2 at hb hA0 ⊢
 replace HT := qh9 (HT.out.below hb)
 replace HW := qc9 HW hb
 replace kt := qh9 (kt.out.below hb)
 replace ki := qh9 (ki.out.below hb)
 replace k1 := qh9 (k1.out.below hb)
 replace G1 := qh9 (G1.out.keep hb)
 replace kj := qh9 (kj.out.below hb)
 have HA := qh9 hA0
 clear hb hA0
 with_reducible refine (CA2.out _ _ HA.out HT.out).mono ?_
 rintro e w7 ⟨p2, rfl, k2, hb⟩
 replace HT := qh9 (HT.out.below hb)
 replace HW := qc9 HW hb
 replace kt := qh9 (kt.out.below hb)
 replace ki := qh9 (ki.out.below hb)
 replace k1 := qh9 (k1.out.below hb)
 replace G1 := qh9 (G1.out.keep hb)
 replace kj := qh9 (kj.out.below hb)
 clear hb HA
 replace k2 := qh9 k2
 have N1 := qh9 (Bx1.new w7 #[.int .i64 0, .string ⟨#[]⟩, .string ⟨#[]⟩, .string ⟨#[]⟩, .string ⟨#[]⟩, .string ⟨#[]⟩, .slice none 0 0])
 go_upto_region 3 with ((with_reducible refine storeB (w1 := w7) (g := w7.heap.size) (b := i0) (p := p2) (.tmp 3) (.tmp 20) ?_ ?_ ?_ ?_ k2.out N1.out.b0 ?_); rfl; rfl; rfl; rfl)
 have Q := Pt1.new (w := w7) (o := i0) (p := p2) (z := #[.int .i64 0, .string ⟨#[]⟩, .string ⟨#[]⟩, .string ⟨#[]⟩, .string ⟨#[]⟩, .string ⟨#[]⟩, .slice none 0 0])
 generalize World.setRow (w7.alloc (.cells #[.int .i64 0, .string ⟨#[]⟩, .string ⟨#[]⟩, .string ⟨#[]⟩, .string ⟨#[]⟩, .string ⟨#[]⟩, .slice none 0 0] 27)) w7.heap.size (cellsO (i0) p2).toArray = X7 at Q ⊢
 have hb := Q.bel
 replace HT := qh9 (HT.out.below hb)
 replace HW := qc9 HW hb
 replace kt := qh9 (kt.out.below hb)
 replace ki := qh9 (ki.out.below hb)
 replace k1 := qh9 (k1.out.below hb)
 replace G1 := qh9 (G1.out.keep hb)
 replace kj := qh9 (kj.out.below hb)
 replace k2 := qh9 (k2.out.below hb)
 have G2 := qh9 Q.b0
 clear hb Q N1
 go_wp2_with fail
 with_reducible refine (CL.out _ _).mono ?_
 rintro e w8 ⟨rfl, hb⟩
 replace HT := qh9 (HT.out.below hb)
 replace HW := qc9 HW hb
 replace kt := qh9 (kt.out.below hb)
 replace ki := qh9 (ki.out.below hb)
 replace k1 := qh9 (k1.out.below hb)
 replace G1 := qh9 (G1.out.keep hb)
 replace kj := qh9 (kj.out.below hb)
 replace k2 := qh9 (k2.out.below hb)
 replace G2 := qh9 (G2.out.keep hb)
 clear hb
 go_wp2_with fail
 with_reducible refine (CR.out _).mono ?_
 rintro e w9 ⟨rfl, hb⟩
 replace HT := qh9 (HT.out.below hb)
 replace HW := qc9 HW hb
 replace kt := qh9 (kt.out.below hb)
 replace ki := qh9 (ki.out.below hb)
 replace k1 := qh9 (k1.out.below hb)
 replace G1 := qh9 (G1.out.keep hb)
 replace kj := qh9 (kj.out.below hb)
 replace k2 := qh9 (k2.out.below hb)
 replace G2 := qh9 (G2.out.keep hb)
 clear hb
 clear kt ki kj CA1 CA2 CR ec ed ef
 go_upto_region 4 with fail
 refine wp_region_grow (l := _) 35 (by kernel_rfl) (by kernel_rfl) (fun i => [27, 28, 29, 30, 31, 32, 33, 34, 35, 36, 37, 38, 39, 40, 41, 42, 43, 44, 45, 46, 47, 48, 49, 50, 51, 52, 53, 54, 55, 56, 57, 58, 59, 60, 61].getD i 0) (LR [LV (.int .i64 0), LV (.bool true), LV (.bool true), LV (.int .i64 0), LV (.bool true), LV (.bool true), LV (.bool true), LV (vO (i98) p1), LH (i98), LV (.bool true), LV (.bool true), LV (.bool true), LV (vO (i0) p2), LH (i0), LV (.bool true), LV (.bool true), LV (.bool true), LV (.int .i64 3), LV (.bool true), LV (.bool true), LV (.bool true), LV (.bool true), LV (.bool true), LV (.bool true), LV (.agg #[.string L, .string ⟨#[99, 97, 114]⟩]), LH (i5), LAr [i5], LV (.bool false), LV (.bool true), LV (.bool true), LV (.bool true), LSl 25, LV (.int .i64 25), LV (.bool true), LV (.bool true)]) (LR_mono (l := [LV (.int .i64 0), LV (.bool true), LV (.bool true), LV (.int .i64 0), LV (.bool true), LV (.bool true), LV (.bool true), LV (vO (i98) p1), LH (i98), LV (.bool true), LV (.bool true), LV (.bool true), LV (vO (i0) p2), LH (i0), LV (.bool true), LV (.bool true), LV (.bool true), LV (.int .i64 3), LV (.bool true), LV (.bool true), LV (.bool true), LV (.bool true), LV (.bool true), LV (.bool true), LV (.agg #[.string L, .string ⟨#[99, 97, 114]⟩]), LH (i5), LAr [i5], LV (.bool false), LV (.bool true), LV (.bool true), LV (.bool true), LSl 25, LV (.int .i64 25), LV (.bool true), LV (.bool true)]) ⟨mLV _, mLV _, mLV _, mLV _, mLV _, mLV _, mLV _, mLV _, mLH _, mLV _, mLV _, mLV _, mLV _, mLH _, mLV _, mLV _, mLV _, mLV _, mLV _, mLV _, mLV _, mLV _, mLV _, mLV _, mLV _, mLH _, mLAr _, mLV _, mLV _, mLV _, mLV _, mLSl _, mLV _, mLV _, mLV _, trivial⟩) (by
  intro i j hi hj h
  exact inj_getD [27, 28, 29, 30, 31, 32, 33, 34, 35, 36, 37, 38, 39, 40, 41, 42, 43, 44, 45, 46, 47, 48, 49, 50, 51, 52, 53, 54, 55, 56, 57, 58, 59, 60, 61] (by decide) i j hi hj h) (by
  intro i hi
  exact lt_getD 62 [27, 28, 29, 30, 31, 32, 33, 34, 35, 36, 37, 38, 39, 40, 41, 42, 43, 44, 45, 46, 47, 48, 49, 50, 51, 52, 53, 54, 55, 56, 57, 58, 59, 60, 61] (by decide) i hi) ?step ?done
 case step =>
  intro i hi a w9 v lo hi' hoth hb hw
  have sl2 : a.tmps[2]? = some (.int .i64 0) := (hoth 2 (fun j hj => by
   have := ne_getD 2 [27, 28, 29, 30, 31, 32, 33, 34, 35, 36, 37, 38, 39, 40, 41, 42, 43, 44, 45, 46, 47, 48, 49, 50, 51, 52, 53, 54, 55, 56, 57, 58, 59, 60, 61] (by decide) j hj
   exact this)).trans rfl
  have sl4 : a.tmps[4]? = some (.int .i64 0) := (hoth 4 (fun j hj => by
   have := ne_getD 4 [27, 28, 29, 30, 31, 32, 33, 34, 35, 36, 37, 38, 39, 40, 41, 42, 43, 44, 45, 46, 47, 48, 49, 50, 51, 52, 53, 54, 55, 56, 57, 58, 59, 60, 61] (by decide) j hj
   exact this)).trans rfl
  have sl1 : a.tmps[1]? = some (.pointer (some ⟨w4.heap.size, 0, none⟩)) := (hoth 1 (fun j hj => by
   have := ne_getD 1 [27, 28, 29, 30, 31, 32, 33, 34, 35, 36, 37, 38, 39, 40, 41, 42, 43, 44, 45, 46, 47, 48, 49, 50, 51, 52, 53, 54, 55, 56, 57, 58, 59, 60, 61] (by decide) j hj
   exact this)).trans rfl
  have sl3 : a.tmps[3]? = some (.pointer (some ⟨w7.heap.size, 0, none⟩)) := (hoth 3 (fun j hj => by
   have := ne_getD 3 [27, 28, 29, 30, 31, 32, 33, 34, 35, 36, 37, 38, 39, 40, 41, 42, 43, 44, 45, 46, 47, 48, 49, 50, 51, 52, 53, 54, 55, 56, 57, 58, 59, 60, 61] (by decide) j hj
   exact this)).trans rfl
  have sl5 : a.tmps[5]? = some (.int .i64 3) := (hoth 5 (fun j hj => by
   have := ne_getD 5 [27, 28, 29, 30, 31, 32, 33, 34, 35, 36, 37, 38, 39, 40, 41, 42, 43, 44, 45, 46, 47, 48, 49, 50, 51, 52, 53, 54, 55, 56, 57, 58, 59, 60, 61] (by decide) j hj
   exact this)).trans rfl
  have sl6 : a.tmps[6]? = some (.bool true) := (hoth 6 (fun j hj => by
   have := ne_getD 6 [27, 28, 29, 30, 31, 32, 33, 34, 35, 36, 37, 38, 39, 40, 41, 42, 43, 44, 45, 46, 47, 48, 49, 50, 51, 52, 53, 54, 55, 56, 57, 58, 59, 60, 61] (by decide) j hj
   exact this)).trans rfl
  match i, hi with
  | 0, _ =>
   exact gw_move rfl (wanted_plain rfl) 2 _ rfl sl2 ⟨_, rfl, Below.refl _ _, rfl⟩
  | 1, _ =>
   obtain ⟨s0, r0, _⟩ := hw 0 (by omega) (by kernel_rfl)
   have e0 : v 0 = .int .i64 0 := r0
   rw [e0] at s0
   exact gw_eqcE rfl (wanted_plain rfl) 27 _ _ rfl s0 ⟨_, rfl, Below.refl _ _, rfl⟩
  | 2, _ =>
   obtain ⟨s0, r0, _⟩ := hw 1 (by omega) (by kernel_rfl)
   have e0 : v 1 = .bool true := r0
   rw [e0] at s0
   exact gw_move rfl (wanted_plain rfl) 28 _ rfl s0 ⟨_, rfl, Below.refl _ _, rfl⟩
  | 3, _ =>
   obtain ⟨s9, r9, _⟩ := hw 2 (by omega) (by kernel_rfl)
   have e9 : v 2 = .bool true := r9
   rw [e9] at s9
   exact gw_move rfl (wanted_on rfl rfl rfl s9 rfl) 4 _ rfl sl4 ⟨_, rfl, Below.refl _ _, rfl⟩
  | 4, _ =>
   obtain ⟨s9, r9, _⟩ := hw 2 (by omega) (by kernel_rfl)
   have e9 : v 2 = .bool true := r9
   rw [e9] at s9
   obtain ⟨s0, r0, _⟩ := hw 3 (by omega) (by kernel_rfl)
   have e0 : v 3 = .int .i64 0 := r0
   rw [e0] at s0
   exact gw_eqcE rfl (wanted_on rfl rfl rfl s9 rfl) 30 _ _ rfl s0 ⟨_, rfl, Below.refl _ _, rfl⟩
  | 5, _ =>
   obtain ⟨s0, r0, _⟩ := hw 2 (by omega) (by kernel_rfl)
   have e0 : v 2 = .bool true := r0
   rw [e0] at s0
   obtain ⟨s1, r1, _⟩ := hw 4 (by omega) (by kernel_rfl)
   have e1 : v 4 = .bool true := r1
   rw [e1] at s1
   exact gw_pickT rfl (wanted_plain rfl) 29 31 _ _ rfl s0 s1 ⟨_, rfl, Below.refl _ _, rfl⟩
  | 6, _ =>
   obtain ⟨s0, r0, _⟩ := hw 5 (by omega) (by kernel_rfl)
   have e0 : v 5 = .bool true := r0
   rw [e0] at s0
   exact gw_move rfl (wanted_plain rfl) 32 _ rfl s0 ⟨_, rfl, Below.refl _ _, rfl⟩
  | 7, _ =>
   obtain ⟨s9, r9, _⟩ := hw 6 (by omega) (by kernel_rfl)
   have e9 : v 6 = .bool true := r9
   rw [e9] at s9
   exact gw_box rfl (wanted_on rfl rfl rfl s9 rfl) (.tmp 1) rfl (eval_of sl1) (G1.out.keep hb) ⟨_, rfl, Below.refl _ _, rfl⟩
  | 8, _ =>
   obtain ⟨s9, r9, _⟩ := hw 6 (by omega) (by kernel_rfl)
   have e9 : v 6 = .bool true := r9
   rw [e9] at s9
   refine gw_c rfl (wanted_on rfl rfl rfl s9 rfl) 10  _ _ rfl (fun v w => by go_simp)  ?_
   with_reducible refine (CI98.out w9 (HT.out.below hb)).mono ?_
   rintro e w3 ⟨p, rfl, hp, hb3⟩
   exact ⟨_, rfl, _, rfl, hb3, p, rfl, hp⟩
  | 9, _ =>
   obtain ⟨s9, r9, _⟩ := hw 6 (by omega) (by kernel_rfl)
   have e9 : v 6 = .bool true := r9
   rw [e9] at s9
   obtain ⟨s0, r0, _⟩ := hw 7 (by omega) (by kernel_rfl)
   have e0 : v 7 = vO (i98) p1 := r0
   rw [e0] at s0
   obtain ⟨s1, r1, _⟩ := hw 8 (by omega) (by kernel_rfl)
   obtain ⟨qq1, e1, kk1⟩ : LH (i98) (v 8) (lo 8) (hi' 8) w9 := r1
   rw [e1] at s1
   refine gw_tt rfl (wanted_on rfl rfl rfl s9 rfl) 12 34 35 _ _ _ rfl (fun v u w => by go_simp) s0 s1 ?_
   with_reducible refine (CE.out i98 w9 _ _ (k1.out.below hb) kk1).mono ?_
   rintro e w3 ⟨rfl, hb3⟩
   exact ⟨_, rfl, _, rfl, hb3, rfl⟩
  | 10, _ =>
   obtain ⟨s0, r0, _⟩ := hw 6 (by omega) (by kernel_rfl)
   have e0 : v 6 = .bool true := r0
   rw [e0] at s0
   obtain ⟨s1, r1, _⟩ := hw 9 (by omega) (by kernel_rfl)
   have e1 : v 9 = .bool true := r1
   rw [e1] at s1
   exact gw_pickT rfl (wanted_plain rfl) 33 36 _ _ rfl s0 s1 ⟨_, rfl, Below.refl _ _, rfl⟩
  | 11, _ =>
   obtain ⟨s0, r0, _⟩ := hw 10 (by omega) (by kernel_rfl)
   have e0 : v 10 = .bool true := r0
   rw [e0] at s0
   exact gw_move rfl (wanted_plain rfl) 37 _ rfl s0 ⟨_, rfl, Below.refl _ _, rfl⟩
  | 12, _ =>
   obtain ⟨s9, r9, _⟩ := hw 11 (by omega) (by kernel_rfl)
   have e9 : v 11 = .bool true := r9
   rw [e9] at s9
   exact gw_box rfl (wanted_on rfl rfl rfl s9 rfl) (.tmp 3) rfl (eval_of sl3) (G2.out.keep hb) ⟨_, rfl, Below.refl _ _, rfl⟩
  | 13, _ =>
   obtain ⟨s9, r9, _⟩ := hw 11 (by omega) (by kernel_rfl)
   have e9 : v 11 = .bool true := r9
   rw [e9] at s9
   refine gw_c rfl (wanted_on rfl rfl rfl s9 rfl) 10  _ _ rfl (fun v w => by go_simp)  ?_
   with_reducible refine (CI0.out w9 (HT.out.below hb)).mono ?_
   rintro e w3 ⟨p, rfl, hp, hb3⟩
   exact ⟨_, rfl, _, rfl, hb3, p, rfl, hp⟩
  | 14, _ =>
   obtain ⟨s9, r9, _⟩ := hw 11 (by omega) (by kernel_rfl)
   have e9 : v 11 = .bool true := r9
   rw [e9] at s9
   obtain ⟨s0, r0, _⟩ := hw 12 (by omega) (by kernel_rfl)
   have e0 : v 12 = vO (i0) p2 := r0
   rw [e0] at s0
   obtain ⟨s1, r1, _⟩ := hw 13 (by omega) (by kernel_rfl)
   obtain ⟨qq1, e1, kk1⟩ : LH (i0) (v 13) (lo 13) (hi' 13) w9 := r1
   rw [e1] at s1
   refine gw_tt rfl (wanted_on rfl rfl rfl s9 rfl) 12 39 40 _ _ _ rfl (fun v u w => by go_simp) s0 s1 ?_
   with_reducible refine (CE.out i0 w9 _ _ (k2.out.below hb) kk1).mono ?_
   rintro e w3 ⟨rfl, hb3⟩
   exact ⟨_, rfl, _, rfl, hb3, rfl⟩
  | 15, _ =>
   obtain ⟨s0, r0, _⟩ := hw 11 (by omega) (by kernel_rfl)
   have e0 : v 11 = .bool true := r0
   rw [e0] at s0
   obtain ⟨s1, r1, _⟩ := hw 14 (by omega) (by kernel_rfl)
   have e1 : v 14 = .bool true := r1
   rw [e1] at s1
   exact gw_pickT rfl (wanted_plain rfl) 38 41 _ _ rfl s0 s1 ⟨_, rfl, Below.refl _ _, rfl⟩
  | 16, _ =>
   obtain ⟨s0, r0, _⟩ := hw 15 (by omega) (by kernel_rfl)
   have e0 : v 15 = .bool true := r0
   rw [e0] at s0
   exact gw_move rfl (wanted_plain rfl) 42 _ rfl s0 ⟨_, rfl, Below.refl _ _, rfl⟩
  | 17, _ =>
   obtain ⟨s9, r9, _⟩ := hw 16 (by omega) (by kernel_rfl)
   have e9 : v 16 = .bool true := r9
   rw [e9] at s9
   exact gw_move rfl (wanted_on rfl rfl rfl s9 rfl) 5 _ rfl sl5 ⟨_, rfl, Below.refl _ _, rfl⟩
  | 18, _ =>
   obtain ⟨s9, r9, _⟩ := hw 16 (by omega) (by kernel_rfl)
   have e9 : v 16 = .bool true := r9
   rw [e9] at s9
   obtain ⟨s0, r0, _⟩ := hw 17 (by omega) (by kernel_rfl)
   have e0 : v 17 = .int .i64 3 := r0
   rw [e0] at s0
   exact gw_eqcI rfl (wanted_on rfl rfl rfl s9 rfl) 44 _ _ rfl s0 ⟨_, rfl, Below.refl _ _, rfl⟩
  | 19, _ =>
   obtain ⟨s0, r0, _⟩ := hw 16 (by omega) (by kernel_rfl)
   have e0 : v 16 = .bool true := r0
   rw [e0] at s0
   obtain ⟨s1, r1, _⟩ := hw 18 (by omega) (by kernel_rfl)
   have e1 : v 18 = .bool true := r1
   rw [e1] at s1
   exact gw_pickT rfl (wanted_plain rfl) 43 45 _ _ rfl s0 s1 ⟨_, rfl, Below.refl _ _, rfl⟩
  | 20, _ =>
   obtain ⟨s0, r0, _⟩ := hw 19 (by omega) (by kernel_rfl)
   have e0 : v 19 = .bool true := r0
   rw [e0] at s0
   exact gw_move rfl (wanted_plain rfl) 46 _ rfl s0 ⟨_, rfl, Below.refl _ _, rfl⟩
  | 21, _ =>
   obtain ⟨s9, r9, _⟩ := hw 20 (by omega) (by kernel_rfl)
   have e9 : v 20 = .bool true := r9
   rw [e9] at s9
   exact gw_move rfl (wanted_on rfl rfl rfl s9 rfl) 6 _ rfl sl6 ⟨_, rfl, Below.refl _ _, rfl⟩
  | 22, _ =>
   obtain ⟨s0, r0, _⟩ := hw 20 (by omega) (by kernel_rfl)
   have e0 : v 20 = .bool true := r0
   rw [e0] at s0
   obtain ⟨s1, r1, _⟩ := hw 21 (by omega) (by kernel_rfl)
   have e1 : v 21 = .bool true := r1
   rw [e1] at s1
   exact gw_pickT rfl (wanted_plain rfl) 47 48 _ _ rfl s0 s1 ⟨_, rfl, Below.refl _ _, rfl⟩
  | 23, _ =>
   obtain ⟨s0, r0, _⟩ := hw 22 (by omega) (by kernel_rfl)
   have e0 : v 22 = .bool true := r0
   rw [e0] at s0
   exact gw_move rfl (wanted_plain rfl) 49 _ rfl s0 ⟨_, rfl, Below.refl _ _, rfl⟩
  | 24, _ =>
   obtain ⟨s9, r9, _⟩ := hw 23 (by omega) (by kernel_rfl)
   have e9 : v 23 = .bool true := r9
   rw [e9] at s9
   refine gw_c rfl (wanted_on rfl rfl rfl s9 rfl) 18  _ _ rfl (fun v w => by go_simp)  ?_
   with_reducible refine (CL.out _ w9).mono ?_
   rintro e w3 ⟨rfl, hb3⟩
   exact ⟨_, rfl, _, rfl, hb3, rfl⟩
  | 25, _ =>
   obtain ⟨s9, r9, _⟩ := hw 23 (by omega) (by kernel_rfl)
   have e9 : v 23 = .bool true := r9
   rw [e9] at s9
   refine gw_c rfl (wanted_on rfl rfl rfl s9 rfl) 10  _ _ rfl (fun v w => by go_simp)  ?_
   with_reducible refine (CI5.out w9 (HT.out.below hb)).mono ?_
   rintro e w3 ⟨p, rfl, hp, hb3⟩
   exact ⟨_, rfl, _, rfl, hb3, p, rfl, hp⟩
  | 26, _ =>
   obtain ⟨s9, r9, _⟩ := hw 23 (by omega) (by kernel_rfl)
   have e9 : v 23 = .bool true := r9
   rw [e9] at s9
   obtain ⟨s0, r0, _⟩ := hw 25 (by omega) (by kernel_rfl)
   obtain ⟨qq0, e0, kk0⟩ : LH (i5) (v 25) (lo 25) (hi' 25) w9 := r0
   rw [e0] at s0
   exact gw_bs1 rfl (wanted_on rfl rfl rfl s9 rfl) 52 rfl s0 ⟨_, rfl, Below.alloc (Below.refl _ _) (Nat.le_refl _) _, ar_new1 kk0⟩
  | 27, _ =>
   obtain ⟨s9, r9, _⟩ := hw 23 (by omega) (by kernel_rfl)
   have e9 : v 23 = .bool true := r9
   rw [e9] at s9
   obtain ⟨s0, r0, _⟩ := hw 24 (by omega) (by kernel_rfl)
   have e0 : v 24 = .agg #[.string L, .string ⟨#[99, 97, 114]⟩] := r0
   rw [e0] at s0
   obtain ⟨s1, r1, _⟩ := hw 26 (by omega) (by kernel_rfl)
   have e1 : Ar w9 [i5] (v 26) := r1
   refine gw_tt rfl (wanted_on rfl rfl rfl s9 rfl) 32 51 53 _ _ _ rfl (fun v u w => by go_simp) s0 s1 ?_
   with_reducible refine (CG.out w9 _ e1 (HT.out.below hb)).mono ?_
   rintro e w3 ⟨rfl, hb3⟩
   exact ⟨_, rfl, _, rfl, hb3, rfl⟩
  | 28, _ =>
   obtain ⟨s9, r9, _⟩ := hw 23 (by omega) (by kernel_rfl)
   have e9 : v 23 = .bool true := r9
   rw [e9] at s9
   obtain ⟨s0, r0, _⟩ := hw 27 (by omega) (by kernel_rfl)
   have e0 : v 27 = .bool false := r0
   rw [e0] at s0
   exact gw_not rfl (wanted_on rfl rfl rfl s9 rfl) 54 _ _ rfl s0 ⟨_, rfl, Below.refl _ _, rfl⟩
  | 29, _ =>
   obtain ⟨s0, r0, _⟩ := hw 23 (by omega) (by kernel_rfl)
   have e0 : v 23 = .bool true := r0
   rw [e0] at s0
   obtain ⟨s1, r1, _⟩ := hw 28 (by omega) (by kernel_rfl)
   have e1 : v 28 = .bool true := r1
   rw [e1] at s1
   exact gw_pickT rfl (wanted_plain rfl) 50 55 _ _ rfl s0 s1 ⟨_, rfl, Below.refl _ _, rfl⟩
  | 30, _ =>
   obtain ⟨s0, r0, _⟩ := hw 29 (by omega) (by kernel_rfl)
   have e0 : v 29 = .bool true := r0
   rw [e0] at s0
   exact gw_move rfl (wanted_plain rfl) 56 _ rfl s0 ⟨_, rfl, Below.refl _ _, rfl⟩
  | 31, _ =>
   obtain ⟨s9, r9, _⟩ := hw 30 (by omega) (by kernel_rfl)
   have e9 : v 30 = .bool true := r9
   rw [e9] at s9
   refine gw_0 rfl (wanted_on rfl rfl rfl s9 rfl) 33  _ rfl (fun  w => by go_simp)  ?_
   with_reducible refine (namesP w9).mono ?_
   rintro e w3 ⟨g, c, rfl, hc, hn, hb3⟩
   exact ⟨_, rfl, _, rfl, hb3, _, _, rfl⟩
  | 32, _ =>
   obtain ⟨s9, r9, _⟩ := hw 30 (by omega) (by kernel_rfl)
   have e9 : v 30 = .bool true := r9
   rw [e9] at s9
   obtain ⟨s0, r0, _⟩ := hw 31 (by omega) (by kernel_rfl)
   obtain ⟨A0, c0, e0⟩ : ∃ A c, v 31 = .slice A 25 c := r0
   rw [e0] at s0
   exact gw_lenS rfl (wanted_on rfl rfl rfl s9 rfl) 58 _ _ _ rfl s0 ⟨_, rfl, Below.refl _ _, rfl⟩
  | 33, _ =>
   obtain ⟨s9, r9, _⟩ := hw 30 (by omega) (by kernel_rfl)
   have e9 : v 30 = .bool true := r9
   rw [e9] at s9
   obtain ⟨s0, r0, _⟩ := hw 32 (by omega) (by kernel_rfl)
   have e0 : v 32 = .int .i64 25 := r0
   rw [e0] at s0
   exact gw_eqcI rfl (wanted_on rfl rfl rfl s9 rfl) 59 _ _ rfl s0 ⟨_, rfl, Below.refl _ _, rfl⟩
  | 34, _ =>
   obtain ⟨s0, r0, _⟩ := hw 30 (by omega) (by kernel_rfl)
   have e0 : v 30 = .bool true := r0
   rw [e0] at s0
   obtain ⟨s1, r1, _⟩ := hw 33 (by omega) (by kernel_rfl)
   have e1 : v 33 = .bool true := r1
   rw [e1] at s1
   exact gw_pickT rfl (wanted_plain rfl) 57 60 _ _ rfl s0 s1 ⟨_, rfl, Below.refl _ _, rfl⟩
  | k + 35, h => exact absurd h (by omega)
 case done =>
  intro a w9 v lo hi' hdef hsz hoth hb hj hap
  obtain ⟨_, hv34, _, _⟩ := hj 34 (by omega)
  have ha := eq_puts hdef hsz hoth (fun i hi => (hj i hi).1)
  subst ha
  clear hj hoth hdef hsz hap
  change v 34 = _ at hv34
  simp only [puts, List.getD_cons_zero, List.getD_cons_succ, hv34]
  generalize v 0 = v0
  generalize v 1 = v1
  generalize v 2 = v2
  generalize v 3 = v3
  generalize v 4 = v4
  generalize v 5 = v5
  generalize v 6 = v6
  generalize v 7 = v7
  generalize v 8 = v8
  generalize v 9 = v9
  generalize v 10 = v10
  generalize v 11 = v11
  generalize v 12 = v12
  generalize v 13 = v13
  generalize v 14 = v14
  generalize v 15 = v15
  generalize v 16 = v16
  generalize v 17 = v17
  generalize v 18 = v18
  generalize v 19 = v19
  generalize v 20 = v20
  generalize v 21 = v21
  generalize v 22 = v22
  generalize v 23 = v23
  generalize v 24 = v24
  generalize v 25 = v25
  generalize v 26 = v26
  generalize v 27 = v27
  generalize v 28 = v28
  generalize v 29 = v29
  generalize v 30 = v30
  generalize v 31 = v31
  generalize v 32 = v32
  generalize v 33 = v33
  clear hv34
  simp only [Act.put, List.setIfInBounds_toArray, List.set_cons_zero, List.set_cons_succ]
  show wpList _ _ _ [_] _ _
  replace HT := qh9 (HT.out.below hb)
  replace HW := qc9 HW hb
  replace k1 := qh9 (k1.out.below hb)
  replace G1 := qh9 (G1.out.keep hb)
  replace k2 := qh9 (k2.out.below hb)
  replace G2 := qh9 (G2.out.keep hb)
  clear hb
  go_wp2
  go_ret
  exact ⟨rfl, HW.out⟩
end Go.Proofs.YtbffnoodpoagcaaGreatDoor
