import Derived.Test.YtbffnoodpoagcaaGreatDoorAl
import Derived.Test.YtbffnoodpoagcaaGreatDoorH25
import Derived.BigRegion
import Derived.Test.YtbffnoodpoagcaaGreatDoorH27
namespace Go.Proofs.YtbffnoodpoagcaaGreatDoor
open Go Go.RowKit
set_option linter.unusedVariables false
theorem mergeV {G P : Prop} (g : G) (h : G → P) : P := h g
section
variable {Q : Exit → Act → World → Prop} {ops : Array Oper} {K : Act → World → Prop} {a : Act} {w : World} {i : Nat} {o : Oper}
theorem gw_cat (ho : ops[i]? = some o) (hw : Region.wanted o (yielded ops a.tmps) = true) (s1 s2 : Tmp) (u v : ByteArray) (hop : o.op = Op.binOp BinOp.add 9 (.tmp s1) (.tmp s2) 9) (hx : a.tmps[s1]? = some (.string u)) (hy : a.tmps[s2]? = some (.string v)) (hn : u.size + v.size ≤ 1000000) (hK : K (a.put o.dst (.string (u ++ v))) w) : wpOp Tryz.prog ops Q i K a w :=
 wpOp_step ho fun K' hK' => by
  rw [if_pos hw]
  unfold Oper.wp
  simp only [execOp, hop]
  have h9 : ¬ 9223372036854775807 < u.size + v.size := by omega
  go_simp
  exact hK' _ _ hK
end
theorem BA_app (l m : List UInt8) : BA l ++ BA m = BA (l ++ m) := by
 apply ByteArray.ext
 simp [BA]
set_option maxHeartbeats 4000000 in
set_option maxRecDepth 100000 in
theorem val21 (x y : Ob) (b o c : Nat) (p q : Value) (w : World) (hx : Ad w x b o p) (hy : Ad w y b (o + 7) q) (hc : 2 ≤ c) (hlx : x.strV.length ≤ 2000) (hly : y.strV.length ≤ 2000) : Calls Tryz.prog 102 #[.slice (some ⟨b, o, none⟩) 2 c] w (RetH w (.str (x.strV ++ y.strV))) := by
 have hsz : (BA x.strV).size + (BA y.strV).size ≤ 1000000 := by rw [BA_size, BA_size]; omega
 have CT : Hid (∀ (z : Ob) W q, Calls Tryz.prog 145 #[vO z q] W (RetY W (.string (BA z.strV)))) := fun z W q => textV z q W
 have CU : Hid (∀ W, Calls Tryz.prog 142 #[.string (BA x.strV ++ BA y.strV)] W (RetH W (.str (x.strV ++ y.strV)))) := fun W => by
  have h := textH (BA x.strV ++ BA y.strV) W
  rw [BA_app, LA_BA] at h
  rw [BA_app]
  exact h
 generalize Ob.str (x.strV ++ y.strV) = res at CU ⊢
 have HX := qh9 hx
 have HY := qh9 hy
 clear hx hy
 have T := Bx1.new w #[.int .i64 0, .string ⟨#[]⟩, .string ⟨#[]⟩, .string ⟨#[]⟩, .string ⟨#[]⟩, .string ⟨#[]⟩, .slice none 0 0]
 go_enter Tryz.func102, Tryz.ntmps102
 go_upto_region 1 with fail
 generalize w.alloc (.cells #[.int .i64 0, .string ⟨#[]⟩, .string ⟨#[]⟩, .string ⟨#[]⟩, .string ⟨#[]⟩, .string ⟨#[]⟩, .slice none 0 0] 27) = W at T ⊢
 have R0 := qh9 T.b0
 have HW := qh9 T.bel
 clear T  
 replace HX := qh9 (HX.out.below HW.out)
 replace HY := qh9 (HY.out.below HW.out)
 have KX := qh9 HX.out.hd
 have KY := qh9 HY.out.hd
 go_wp2_with (first | ((with_reducible refine loadA ?_ ?_ HX.out ?_); exact ⟨_, rfl, rfl⟩; rfl) | ((with_reducible refine loadAG ?_ ?_ HX.out ?_); exact ⟨_, rfl, rfl⟩; rfl) | ((with_reducible refine loadA ?_ ?_ HY.out ?_); exact ⟨_, rfl, rfl⟩; rfl) | ((with_reducible refine loadAG ?_ ?_ HY.out ?_); exact ⟨_, rfl, rfl⟩; rfl))
 refine wp_region_grow (l := _) 10 (by kernel_rfl) (by kernel_rfl) (fun i => [3, 4, 5, 6, 7, 8, 9, 10, 11, 12].getD i 0) (LR [LV (.slice (some ⟨b, o, none⟩) 2 c), LV (.pointer (some ⟨b, o, none⟩)), LV (vO (x) p), LV (.string (BA x.strV)), LV (.slice (some ⟨b, o, none⟩) 2 c), LV (.pointer (some ⟨b, o + 7, none⟩)), LV (vO (y) q), LV (.string (BA y.strV)), LV (.string (BA x.strV ++ BA y.strV)), LH (res)]) (LR_mono (l := [LV (.slice (some ⟨b, o, none⟩) 2 c), LV (.pointer (some ⟨b, o, none⟩)), LV (vO (x) p), LV (.string (BA x.strV)), LV (.slice (some ⟨b, o, none⟩) 2 c), LV (.pointer (some ⟨b, o + 7, none⟩)), LV (vO (y) q), LV (.string (BA y.strV)), LV (.string (BA x.strV ++ BA y.strV)), LH (res)]) ⟨mLV _, mLV _, mLV _, mLV _, mLV _, mLV _, mLV _, mLV _, mLV _, mLH _, trivial⟩) (by
  intro i j hi hj h
  exact inj_getD [3, 4, 5, 6, 7, 8, 9, 10, 11, 12] (by decide) i j hi hj h) (by
  intro i hi
  exact lt_getD 13 [3, 4, 5, 6, 7, 8, 9, 10, 11, 12] (by decide) i hi) ?step ?done
 case step =>
  intro i hi a w9 v lo hi' hoth hb hw
  have sl0 : a.tmps[0]? = some (.slice (some ⟨b, o, none⟩) 2 c) := (hoth 0 (fun j hj => by
   have := ne_getD 0 [3, 4, 5, 6, 7, 8, 9, 10, 11, 12] (by decide) j hj
   exact this)).trans rfl
  match i, hi with
  | 0, _ =>
   exact gw_move rfl (wanted_plain rfl) 0 _ rfl sl0 ⟨_, rfl, Below.refl _ _, rfl⟩
  | 1, _ =>
   obtain ⟨s0, r0, _⟩ := hw 0 (by omega) (by kernel_rfl)
   have e0 : v 0 = .slice (some ⟨b, o, none⟩) 2 c := r0
   rw [e0] at s0
   exact gw_idx20 rfl (wanted_plain rfl) 3 _ _ _ rfl s0 ⟨_, rfl, Below.refl _ _, rfl⟩
  | 2, _ =>
   obtain ⟨s0, r0, _⟩ := hw 1 (by omega) (by kernel_rfl)
   have e0 : v 1 = .pointer (some ⟨b, o, none⟩) := r0
   rw [e0] at s0
   exact gw_lda rfl (wanted_plain rfl) 4 rfl s0 (HX.out.below hb) ⟨_, rfl, Below.refl _ _, rfl⟩
  | 3, _ =>
   obtain ⟨s0, r0, _⟩ := hw 2 (by omega) (by kernel_rfl)
   have e0 : v 2 = vO (x) p := r0
   rw [e0] at s0
   refine gw_t rfl (wanted_plain rfl) 145 5 _ _ rfl (fun v w => by go_simp) s0 ?_
   with_reducible refine (CT.out x w9 _).mono ?_
   rintro e w3 ⟨rfl, hb3⟩
   exact ⟨_, rfl, _, rfl, hb3, rfl⟩
  | 4, _ =>
   exact gw_move rfl (wanted_plain rfl) 0 _ rfl sl0 ⟨_, rfl, Below.refl _ _, rfl⟩
  | 5, _ =>
   obtain ⟨s0, r0, _⟩ := hw 4 (by omega) (by kernel_rfl)
   have e0 : v 4 = .slice (some ⟨b, o, none⟩) 2 c := r0
   rw [e0] at s0
   exact gw_idx21 rfl (wanted_plain rfl) 7 _ _ _ rfl s0 ⟨_, rfl, Below.refl _ _, rfl⟩
  | 6, _ =>
   obtain ⟨s0, r0, _⟩ := hw 5 (by omega) (by kernel_rfl)
   have e0 : v 5 = .pointer (some ⟨b, o + 7, none⟩) := r0
   rw [e0] at s0
   exact gw_lda rfl (wanted_plain rfl) 8 rfl s0 (HY.out.below hb) ⟨_, rfl, Below.refl _ _, rfl⟩
  | 7, _ =>
   obtain ⟨s0, r0, _⟩ := hw 6 (by omega) (by kernel_rfl)
   have e0 : v 6 = vO (y) q := r0
   rw [e0] at s0
   refine gw_t rfl (wanted_plain rfl) 145 9 _ _ rfl (fun v w => by go_simp) s0 ?_
   with_reducible refine (CT.out y w9 _).mono ?_
   rintro e w3 ⟨rfl, hb3⟩
   exact ⟨_, rfl, _, rfl, hb3, rfl⟩
  | 8, _ =>
   obtain ⟨s0, r0, _⟩ := hw 3 (by omega) (by kernel_rfl)
   have e0 : v 3 = .string (BA x.strV) := r0
   rw [e0] at s0
   obtain ⟨s1, r1, _⟩ := hw 7 (by omega) (by kernel_rfl)
   have e1 : v 7 = .string (BA y.strV) := r1
   rw [e1] at s1
   exact gw_cat rfl (wanted_plain rfl) 6 10 _ _ rfl s0 s1 hsz ⟨_, rfl, Below.refl _ _, rfl⟩
  | 9, _ =>
   obtain ⟨s0, r0, _⟩ := hw 8 (by omega) (by kernel_rfl)
   have e0 : v 8 = .string (BA x.strV ++ BA y.strV) := r0
   rw [e0] at s0
   refine gw_t rfl (wanted_plain rfl) 142 11 _ _ rfl (fun v w => by go_simp) s0 ?_
   with_reducible refine (CU.out w9).mono ?_
   rintro e w3 ⟨p, rfl, hp, hb3⟩
   exact ⟨_, rfl, _, rfl, hb3, p, rfl, hp⟩
 case done =>
  intro a w9 v lo hi' hdef hsz hoth hb hj hap
  obtain ⟨_, ⟨pr, hv9, kr⟩, hlo9, hhi9⟩ := hj 9 (by omega)
  have ha := eq_puts hdef hsz hoth (fun i hi => (hj i hi).1)
  subst ha
  clear hj hoth hdef hsz hap
  simp only [puts, List.getD_cons_zero, List.getD_cons_succ, hv9]
  generalize v 0 = v0
  generalize v 1 = v1
  generalize v 2 = v2
  generalize v 3 = v3
  generalize v 4 = v4
  generalize v 5 = v5
  generalize v 6 = v6
  generalize v 7 = v7
  generalize v 8 = v8
  clear hv9
  simp only [Act.put, List.setIfInBounds_toArray, List.set_cons_zero, List.set_cons_succ]
  show wpList _ _ _ [_] _ _
  replace R0 := qh9 (R0.out.keep hb)
  replace HW := qc9 HW hb
  replace KX := qh9 (KX.out.below hb)
  replace KY := qh9 (KY.out.below hb)
  replace HX := qh9 (HX.out.below hb)
  replace HY := qh9 (HY.out.below hb)
  clear hb
  replace kr := qh9 kr
  go_wp2_with (first | ((with_reducible refine storeB (w1 := w9) (g := w.heap.size) (b := res) (p := pr) (.tmp 2) (.tmp 12) ?_ ?_ ?_ ?_ kr.out R0.out ?_); rfl; rfl; rfl; rfl) | ((with_reducible refine loadA ?_ ?_ HX.out ?_); exact ⟨_, rfl, rfl⟩; rfl) | ((with_reducible refine loadAG ?_ ?_ HX.out ?_); exact ⟨_, rfl, rfl⟩; rfl) | ((with_reducible refine loadA ?_ ?_ HY.out ?_); exact ⟨_, rfl, rfl⟩; rfl) | ((with_reducible refine loadAG ?_ ?_ HY.out ?_); exact ⟨_, rfl, rfl⟩; rfl))
  exact retHs rfl rfl R0.out rfl kr.out (by omega) HW.out
set_option maxHeartbeats 4000000 in
set_option maxRecDepth 100000 in
theorem val20N (x y : Ob) (b o c : Nat) (p q : Value) (w : World) (hx : Ad w x b o p) (hy : Ad w y b (o + 7) q) (hc : 2 ≤ c) (hr : Hid ([x, y].all Ob.isStrB = false)) : Calls Tryz.prog 100 #[.slice (some ⟨b, o, none⟩) 2 c] w (RetH w .nil) := by
 have HX := qh9 hx
 have HY := qh9 hy
 clear hx hy
 have T := Bx1.new w #[.int .i64 0, .string ⟨#[]⟩, .string ⟨#[]⟩, .string ⟨#[]⟩, .string ⟨#[]⟩, .string ⟨#[]⟩, .slice none 0 0]
 go_enter Tryz.func100, Tryz.ntmps100
 go_upto_region 1 with fail
 generalize w.alloc (.cells #[.int .i64 0, .string ⟨#[]⟩, .string ⟨#[]⟩, .string ⟨#[]⟩, .string ⟨#[]⟩, .string ⟨#[]⟩, .slice none 0 0] 27) = W at T ⊢
 have R0 := qh9 T.b0
 have HW := qh9 T.bel
 clear T  
 replace HX := qh9 (HX.out.below HW.out)
 replace HY := qh9 (HY.out.below HW.out)
 have HA : Hid (∀ X, Below W.heap.size W X → Ar X [x, y] (.slice (some ⟨b, o, none⟩) 2 c)) := qh9 fun X h => ar2 (HX.out.below h) (HY.out.below h) hc
 have h1 : Below W.heap.size W W.drew := (Below.refl _ _).drew
 have h2 : Below W.heap.size W (W.alloc (.cells #[.string ⟨#[]⟩, .string ⟨#[]⟩] 24)).drew := (Below.alloc (Below.refl _ _) (Nat.le_refl _) _).drew
 obtain ⟨_, _, _, _, _, mx5, _⟩ := HX.out.k
 obtain ⟨_, _, _, _, _, my5, _⟩ := HY.out.k
 obtain ⟨_, _, _, _, _, dx5, _⟩ := (HX.out.below h1).k
 obtain ⟨_, _, _, _, _, dy5, _⟩ := (HY.out.below h1).k
 obtain ⟨_, _, _, _, _, ex5, _⟩ := (HX.out.below h2).k
 obtain ⟨_, _, _, _, _, ey5, _⟩ := (HY.out.below h2).k
 simp only [Nat.add_assoc, Nat.reduceAdd] at my5 dy5 ey5
 clear h1 h2
 generalize x.f5 = s2 at *
 generalize y.f5 = s1 at *
 go_wp2_with fail
 apply mergeV
 case h =>
  intro hG
  go_region_with (fail)
  all_goals exact hG
 clear mx5 my5 dx5 dy5 ex5 ey5
 have hb : Below W.heap.size W (W.alloc (.cells #[.string s1, .string s2] 24)).drew := (Below.alloc (Below.refl _ _) (Nat.le_refl _) _).drew
 have hS : Sy.SB (W.alloc (.cells #[.string s1, .string s2] 24)).drew W.heap.size (.string s1) (.string s2) := Sy.SB.new W _ _
 have CS : Hid (∀ X, Below W.heap.size W X → Calls Tryz.prog 101 #[.slice (some ⟨b, o, none⟩) 2 c] X (RetB X false)) := fun X h => by
  have h3 := areStringsP [x, y] _ X (HA.out X h) (Nat.le_of_ble_eq_true rfl)
  rw [hr.out] at h3
  exact h3
 generalize (W.alloc (.cells #[.string s1, .string s2] 24)).drew = W2 at hb hS ⊢
 have HS := qh9 hS
 clear hS
 have HB2 := qh9 hb
 replace R0 := qh9 (R0.out.keep hb)
 replace HW := qc9 HW hb
 replace HX := qh9 (HX.out.below hb)
 replace HY := qh9 (HY.out.below hb)
 clear hb HA
 go_wp2_with (first | ((with_reducible refine loadA ?_ ?_ HX.out ?_); exact ⟨_, rfl, rfl⟩; rfl) | ((with_reducible refine loadAG ?_ ?_ HX.out ?_); exact ⟨_, rfl, rfl⟩; rfl) | ((with_reducible refine loadA ?_ ?_ HY.out ?_); exact ⟨_, rfl, rfl⟩; rfl) | ((with_reducible refine loadAG ?_ ?_ HY.out ?_); exact ⟨_, rfl, rfl⟩; rfl))
 with_reducible refine (CS.out _ HB2.out).mono ?_
 rintro e w1 ⟨rfl, hb⟩
 replace R0 := qh9 (R0.out.keep hb)
 replace HW := qc9 HW hb
 replace HX := qh9 (HX.out.below hb)
 replace HY := qh9 (HY.out.below hb)
 clear hb
 clear CS
 clear hr HS
 go_wp2_with (first | ((with_reducible refine loadA ?_ ?_ HX.out ?_); exact ⟨_, rfl, rfl⟩; rfl) | ((with_reducible refine loadAG ?_ ?_ HX.out ?_); exact ⟨_, rfl, rfl⟩; rfl) | ((with_reducible refine loadA ?_ ?_ HY.out ?_); exact ⟨_, rfl, rfl⟩; rfl) | ((with_reducible refine loadAG ?_ ?_ HY.out ?_); exact ⟨_, rfl, rfl⟩; rfl))
 with_reducible refine (nilH _).mono ?_
 rintro e w2 ⟨pr, rfl, kr, hb⟩
 replace R0 := qh9 (R0.out.keep hb)
 replace HW := qc9 HW hb
 replace HX := qh9 (HX.out.below hb)
 replace HY := qh9 (HY.out.below hb)
 clear hb
 replace kr := qh9 kr
 go_wp2_with (first | ((with_reducible refine storeB (w1 := w2) (g := w.heap.size) (b := .nil) (p := pr) (.tmp 2) (.tmp 21) ?_ ?_ ?_ ?_ kr.out R0.out ?_); rfl; rfl; rfl; rfl) | ((with_reducible refine loadA ?_ ?_ HX.out ?_); exact ⟨_, rfl, rfl⟩; rfl) | ((with_reducible refine loadAG ?_ ?_ HX.out ?_); exact ⟨_, rfl, rfl⟩; rfl) | ((with_reducible refine loadA ?_ ?_ HY.out ?_); exact ⟨_, rfl, rfl⟩; rfl) | ((with_reducible refine loadAG ?_ ?_ HY.out ?_); exact ⟨_, rfl, rfl⟩; rfl))
 exact retHs rfl rfl R0.out rfl kr.out (by omega) HW.out
set_option maxHeartbeats 4000000 in
set_option maxRecDepth 100000 in
theorem val20F (x y : Ob) (b o c : Nat) (p q : Value) (w : World) (hx : Ad w x b o p) (hy : Ad w y b (o + 7) q) (hc : 2 ≤ c) (hr : Hid ([x, y].all Ob.isStrB = true)) (hok : Hid (Sy.symOk y.f5 x.f5 = false)) : Calls Tryz.prog 100 #[.slice (some ⟨b, o, none⟩) 2 c] w (RetH w .nil) := by
 have HX := qh9 hx
 have HY := qh9 hy
 clear hx hy
 have T := Bx1.new w #[.int .i64 0, .string ⟨#[]⟩, .string ⟨#[]⟩, .string ⟨#[]⟩, .string ⟨#[]⟩, .string ⟨#[]⟩, .slice none 0 0]
 go_enter Tryz.func100, Tryz.ntmps100
 go_upto_region 1 with fail
 generalize w.alloc (.cells #[.int .i64 0, .string ⟨#[]⟩, .string ⟨#[]⟩, .string ⟨#[]⟩, .string ⟨#[]⟩, .string ⟨#[]⟩, .slice none 0 0] 27) = W at T ⊢
 have R0 := qh9 T.b0
 have HW := qh9 T.bel
 clear T  
 replace HX := qh9 (HX.out.below HW.out)
 replace HY := qh9 (HY.out.below HW.out)
 have HA : Hid (∀ X, Below W.heap.size W X → Ar X [x, y] (.slice (some ⟨b, o, none⟩) 2 c)) := qh9 fun X h => ar2 (HX.out.below h) (HY.out.below h) hc
 have h1 : Below W.heap.size W W.drew := (Below.refl _ _).drew
 have h2 : Below W.heap.size W (W.alloc (.cells #[.string ⟨#[]⟩, .string ⟨#[]⟩] 24)).drew := (Below.alloc (Below.refl _ _) (Nat.le_refl _) _).drew
 obtain ⟨_, _, _, _, _, mx5, _⟩ := HX.out.k
 obtain ⟨_, _, _, _, _, my5, _⟩ := HY.out.k
 obtain ⟨_, _, _, _, _, dx5, _⟩ := (HX.out.below h1).k
 obtain ⟨_, _, _, _, _, dy5, _⟩ := (HY.out.below h1).k
 obtain ⟨_, _, _, _, _, ex5, _⟩ := (HX.out.below h2).k
 obtain ⟨_, _, _, _, _, ey5, _⟩ := (HY.out.below h2).k
 simp only [Nat.add_assoc, Nat.reduceAdd] at my5 dy5 ey5
 clear h1 h2
 generalize x.f5 = s2 at *
 generalize y.f5 = s1 at *
 go_wp2_with fail
 apply mergeV
 case h =>
  intro hG
  go_region_with (fail)
  all_goals exact hG
 clear mx5 my5 dx5 dy5 ex5 ey5
 have hb : Below W.heap.size W (W.alloc (.cells #[.string s1, .string s2] 24)).drew := (Below.alloc (Below.refl _ _) (Nat.le_refl _) _).drew
 have hS : Sy.SB (W.alloc (.cells #[.string s1, .string s2] 24)).drew W.heap.size (.string s1) (.string s2) := Sy.SB.new W _ _
 have CS : Hid (∀ X, Below W.heap.size W X → Calls Tryz.prog 101 #[.slice (some ⟨b, o, none⟩) 2 c] X (RetB X true)) := fun X h => by
  have h3 := areStringsP [x, y] _ X (HA.out X h) (Nat.le_of_ble_eq_true rfl)
  rw [hr.out] at h3
  exact h3
 generalize (W.alloc (.cells #[.string s1, .string s2] 24)).drew = W2 at hb hS ⊢
 have HS := qh9 hS
 clear hS
 have HB2 := qh9 hb
 replace R0 := qh9 (R0.out.keep hb)
 replace HW := qc9 HW hb
 replace HX := qh9 (HX.out.below hb)
 replace HY := qh9 (HY.out.below hb)
 clear hb HA
 go_wp2_with (first | ((with_reducible refine loadA ?_ ?_ HX.out ?_); exact ⟨_, rfl, rfl⟩; rfl) | ((with_reducible refine loadAG ?_ ?_ HX.out ?_); exact ⟨_, rfl, rfl⟩; rfl) | ((with_reducible refine loadA ?_ ?_ HY.out ?_); exact ⟨_, rfl, rfl⟩; rfl) | ((with_reducible refine loadAG ?_ ?_ HY.out ?_); exact ⟨_, rfl, rfl⟩; rfl))
 with_reducible refine (CS.out _ HB2.out).mono ?_
 rintro e w1 ⟨rfl, hb⟩
 replace R0 := qh9 (R0.out.keep hb)
 replace HW := qc9 HW hb
 replace HX := qh9 (HX.out.below hb)
 replace HY := qh9 (HY.out.below hb)
 replace HS := qh9 (HS.out.keep hb)
 clear hb
 clear CS
 have l0 := HS.out.c0
 have l1 := HS.out.c1
 have CV : Hid (∀ X, Calls Tryz.prog 143 #[.agg #[.string s1, .string s2]] X (RetY X (.bool false))) := fun X => by
  have h3 := Sy.validSY s1 s2 X
  rw [hok.out] at h3
  exact h3
 clear hr hok
 go_wp2_with (first | ((with_reducible refine loadA ?_ ?_ HX.out ?_); exact ⟨_, rfl, rfl⟩; rfl) | ((with_reducible refine loadAG ?_ ?_ HX.out ?_); exact ⟨_, rfl, rfl⟩; rfl) | ((with_reducible refine loadA ?_ ?_ HY.out ?_); exact ⟨_, rfl, rfl⟩; rfl) | ((with_reducible refine loadAG ?_ ?_ HY.out ?_); exact ⟨_, rfl, rfl⟩; rfl))
 with_reducible refine (CV.out _).mono ?_
 rintro e w2 ⟨rfl, hb⟩
 replace R0 := qh9 (R0.out.keep hb)
 replace HW := qc9 HW hb
 replace HX := qh9 (HX.out.below hb)
 replace HY := qh9 (HY.out.below hb)
 replace HS := qh9 (HS.out.keep hb)
 clear hb CV l0 l1
 go_wp2_with (first | ((with_reducible refine loadA ?_ ?_ HX.out ?_); exact ⟨_, rfl, rfl⟩; rfl) | ((with_reducible refine loadAG ?_ ?_ HX.out ?_); exact ⟨_, rfl, rfl⟩; rfl) | ((with_reducible refine loadA ?_ ?_ HY.out ?_); exact ⟨_, rfl, rfl⟩; rfl) | ((with_reducible refine loadAG ?_ ?_ HY.out ?_); exact ⟨_, rfl, rfl⟩; rfl))
 with_reducible refine (nilH _).mono ?_
 rintro e w3 ⟨pr, rfl, kr, hb⟩
 replace R0 := qh9 (R0.out.keep hb)
 replace HW := qc9 HW hb
 replace HX := qh9 (HX.out.below hb)
 replace HY := qh9 (HY.out.below hb)
 clear hb
 replace kr := qh9 kr
 go_wp2_with (first | ((with_reducible refine storeB (w1 := w3) (g := w.heap.size) (b := .nil) (p := pr) (.tmp 2) (.tmp 21) ?_ ?_ ?_ ?_ kr.out R0.out ?_); rfl; rfl; rfl; rfl) | ((with_reducible refine loadA ?_ ?_ HX.out ?_); exact ⟨_, rfl, rfl⟩; rfl) | ((with_reducible refine loadAG ?_ ?_ HX.out ?_); exact ⟨_, rfl, rfl⟩; rfl) | ((with_reducible refine loadA ?_ ?_ HY.out ?_); exact ⟨_, rfl, rfl⟩; rfl) | ((with_reducible refine loadAG ?_ ?_ HY.out ?_); exact ⟨_, rfl, rfl⟩; rfl))
 exact retHs rfl rfl R0.out rfl kr.out (by omega) HW.out
set_option maxHeartbeats 4000000 in
set_option maxRecDepth 100000 in
theorem val20T (x y : Ob) (b o c : Nat) (p q : Value) (w : World) (hx : Ad w x b o p) (hy : Ad w y b (o + 7) q) (hc : 2 ≤ c) (hr : Hid ([x, y].all Ob.isStrB = true)) (hok : Hid (Sy.symOk y.f5 x.f5 = true)) : Calls Tryz.prog 100 #[.slice (some ⟨b, o, none⟩) 2 c] w (RetH w (.sym (LA y.f5) (LA x.f5))) := by
 have HX := qh9 hx
 have HY := qh9 hy
 clear hx hy
 have T := Bx1.new w #[.int .i64 0, .string ⟨#[]⟩, .string ⟨#[]⟩, .string ⟨#[]⟩, .string ⟨#[]⟩, .string ⟨#[]⟩, .slice none 0 0]
 go_enter Tryz.func100, Tryz.ntmps100
 go_upto_region 1 with fail
 generalize w.alloc (.cells #[.int .i64 0, .string ⟨#[]⟩, .string ⟨#[]⟩, .string ⟨#[]⟩, .string ⟨#[]⟩, .string ⟨#[]⟩, .slice none 0 0] 27) = W at T ⊢
 have R0 := qh9 T.b0
 have HW := qh9 T.bel
 clear T  
 replace HX := qh9 (HX.out.below HW.out)
 replace HY := qh9 (HY.out.below HW.out)
 have HA : Hid (∀ X, Below W.heap.size W X → Ar X [x, y] (.slice (some ⟨b, o, none⟩) 2 c)) := qh9 fun X h => ar2 (HX.out.below h) (HY.out.below h) hc
 have h1 : Below W.heap.size W W.drew := (Below.refl _ _).drew
 have h2 : Below W.heap.size W (W.alloc (.cells #[.string ⟨#[]⟩, .string ⟨#[]⟩] 24)).drew := (Below.alloc (Below.refl _ _) (Nat.le_refl _) _).drew
 obtain ⟨_, _, _, _, _, mx5, _⟩ := HX.out.k
 obtain ⟨_, _, _, _, _, my5, _⟩ := HY.out.k
 obtain ⟨_, _, _, _, _, dx5, _⟩ := (HX.out.below h1).k
 obtain ⟨_, _, _, _, _, dy5, _⟩ := (HY.out.below h1).k
 obtain ⟨_, _, _, _, _, ex5, _⟩ := (HX.out.below h2).k
 obtain ⟨_, _, _, _, _, ey5, _⟩ := (HY.out.below h2).k
 simp only [Nat.add_assoc, Nat.reduceAdd] at my5 dy5 ey5
 clear h1 h2
 generalize x.f5 = s2 at *
 generalize y.f5 = s1 at *
 go_wp2_with fail
 apply mergeV
 case h =>
  intro hG
  go_region_with (fail)
  all_goals exact hG
 clear mx5 my5 dx5 dy5 ex5 ey5
 have hb : Below W.heap.size W (W.alloc (.cells #[.string s1, .string s2] 24)).drew := (Below.alloc (Below.refl _ _) (Nat.le_refl _) _).drew
 have hS : Sy.SB (W.alloc (.cells #[.string s1, .string s2] 24)).drew W.heap.size (.string s1) (.string s2) := Sy.SB.new W _ _
 have CS : Hid (∀ X, Below W.heap.size W X → Calls Tryz.prog 101 #[.slice (some ⟨b, o, none⟩) 2 c] X (RetB X true)) := fun X h => by
  have h3 := areStringsP [x, y] _ X (HA.out X h) (Nat.le_of_ble_eq_true rfl)
  rw [hr.out] at h3
  exact h3
 generalize (W.alloc (.cells #[.string s1, .string s2] 24)).drew = W2 at hb hS ⊢
 have HS := qh9 hS
 clear hS
 have HB2 := qh9 hb
 replace R0 := qh9 (R0.out.keep hb)
 replace HW := qc9 HW hb
 replace HX := qh9 (HX.out.below hb)
 replace HY := qh9 (HY.out.below hb)
 clear hb HA
 go_wp2_with (first | ((with_reducible refine loadA ?_ ?_ HX.out ?_); exact ⟨_, rfl, rfl⟩; rfl) | ((with_reducible refine loadAG ?_ ?_ HX.out ?_); exact ⟨_, rfl, rfl⟩; rfl) | ((with_reducible refine loadA ?_ ?_ HY.out ?_); exact ⟨_, rfl, rfl⟩; rfl) | ((with_reducible refine loadAG ?_ ?_ HY.out ?_); exact ⟨_, rfl, rfl⟩; rfl))
 with_reducible refine (CS.out _ HB2.out).mono ?_
 rintro e w1 ⟨rfl, hb⟩
 replace R0 := qh9 (R0.out.keep hb)
 replace HW := qc9 HW hb
 replace HX := qh9 (HX.out.below hb)
 replace HY := qh9 (HY.out.below hb)
 replace HS := qh9 (HS.out.keep hb)
 clear hb
 clear CS
 have l0 := HS.out.c0
 have l1 := HS.out.c1
 have CV : Hid (∀ X, Calls Tryz.prog 143 #[.agg #[.string s1, .string s2]] X (RetY X (.bool true))) := fun X => by
  have h3 := Sy.validSY s1 s2 X
  rw [hok.out] at h3
  exact h3
 clear hr hok
 go_wp2_with (first | ((with_reducible refine loadA ?_ ?_ HX.out ?_); exact ⟨_, rfl, rfl⟩; rfl) | ((with_reducible refine loadAG ?_ ?_ HX.out ?_); exact ⟨_, rfl, rfl⟩; rfl) | ((with_reducible refine loadA ?_ ?_ HY.out ?_); exact ⟨_, rfl, rfl⟩; rfl) | ((with_reducible refine loadAG ?_ ?_ HY.out ?_); exact ⟨_, rfl, rfl⟩; rfl))
 with_reducible refine (CV.out _).mono ?_
 rintro e w2 ⟨rfl, hb⟩
 replace R0 := qh9 (R0.out.keep hb)
 replace HW := qc9 HW hb
 replace HX := qh9 (HX.out.below hb)
 replace HY := qh9 (HY.out.below hb)
 replace HS := qh9 (HS.out.keep hb)
 clear hb CV l0 l1
 have l0 := HS.out.c0
 have l1 := HS.out.c1
 go_wp2_with (first | ((with_reducible refine loadA ?_ ?_ HX.out ?_); exact ⟨_, rfl, rfl⟩; rfl) | ((with_reducible refine loadAG ?_ ?_ HX.out ?_); exact ⟨_, rfl, rfl⟩; rfl) | ((with_reducible refine loadA ?_ ?_ HY.out ?_); exact ⟨_, rfl, rfl⟩; rfl) | ((with_reducible refine loadAG ?_ ?_ HY.out ?_); exact ⟨_, rfl, rfl⟩; rfl))
 clear l0 l1 HS
 with_reducible refine (symbolH _ _ _).mono ?_
 rintro e w3 ⟨pr, rfl, kr, hb⟩
 replace R0 := qh9 (R0.out.keep hb)
 replace HW := qc9 HW hb
 replace HX := qh9 (HX.out.below hb)
 replace HY := qh9 (HY.out.below hb)
 clear hb
 replace kr := qh9 kr
 go_wp2_with (first | ((with_reducible refine storeB (w1 := w3) (g := w.heap.size) (b := .sym (LA s1) (LA s2)) (p := pr) (.tmp 2) (.tmp 23) ?_ ?_ ?_ ?_ kr.out R0.out ?_); rfl; rfl; rfl; rfl) | ((with_reducible refine loadA ?_ ?_ HX.out ?_); exact ⟨_, rfl, rfl⟩; rfl) | ((with_reducible refine loadAG ?_ ?_ HX.out ?_); exact ⟨_, rfl, rfl⟩; rfl) | ((with_reducible refine loadA ?_ ?_ HY.out ?_); exact ⟨_, rfl, rfl⟩; rfl) | ((with_reducible refine loadAG ?_ ?_ HY.out ?_); exact ⟨_, rfl, rfl⟩; rfl))
 exact retHs rfl rfl R0.out rfl kr.out (by omega) HW.out
theorem val20 (x y : Ob) (b o c : Nat) (p q : Value) (w : World) (hx : Ad w x b o p) (hy : Ad w y b (o + 7) q) (hc : 2 ≤ c) : Calls Tryz.prog 100 #[.slice (some ⟨b, o, none⟩) 2 c] w (RetH w (internV x y)) := by
 cases hr : [x, y].all Ob.isStrB with
 | false =>
  have e : internV x y = .nil := by
   cases x <;> cases y <;> first | rfl | (exfalso; revert hr; simp [Ob.isStrB])
  rw [e]
  exact val20N x y b o c p q w hx hy hc hr
 | true =>
  cases x with
  | str n =>
   cases y with
   | str m =>
    have e : internV (.str n) (.str m) = if Sy.symOk (BA m) (BA n) then .sym m n else .nil := rfl
    rw [e]
    cases hok : Sy.symOk (BA m) (BA n) with
    | false => exact val20F (.str n) (.str m) b o c p q w hx hy hc hr hok
    | true =>
     have h := val20T (.str n) (.str m) b o c p q w hx hy hc hr hok
     have e2 : (Ob.sym (LA (Ob.str m).f5) (LA (Ob.str n).f5)) = .sym m n := by show Ob.sym (LA (BA m)) (LA (BA n)) = _; rw [LA_BA, LA_BA]
     rw [e2] at h
     exact h
   | _ => exfalso; revert hr; simp [Ob.isStrB]
  | _ => exfalso; revert hr; simp [Ob.isStrB]
set_option maxHeartbeats 4000000 in
set_option maxRecDepth 100000 in
theorem twoEqual (x y : Ob) (p q : Value) (w : World) (hx : Hd w x p) (hy : Hd w y q) (ht : Tab w) : Calls Tryz.prog 42 #[.string ⟨#[101, 113, 117, 97, 108]⟩, vO x p, vO y q] w (RetH w (trO (decide (x = y)))) := by
 have CE : Hid (∀ W s t, Hd W x s → Hd W y t → Calls Tryz.prog 12 #[vO x s, vO y t] W (RetB W (decide (x = y)))) := fun W s t h1 h2 => equalO x y s t W (Has W) (In.has W) h1 h2
 generalize decide (x = y) = v at CE ⊢
 obtain ⟨a0, a1, a2, a3, a4, a5, ea⟩ := cells7 (x) p
 obtain ⟨b0, b1, b2, b3, b4, b5, eb⟩ := cells7 (y) q
 have T := Bx3.new w #[a0, a1, a2, a3, a4, a5, p] #[b0, b1, b2, b3, b4, b5, q] #[.int .i64 0, .string ⟨#[]⟩, .string ⟨#[]⟩, .string ⟨#[]⟩, .string ⟨#[]⟩, .string ⟨#[]⟩, .slice none 0 0]
 rw [vO_cells ea, vO_cells eb]
 go_enter Tryz.func42, Tryz.ntmps42
 go_upto_region 1 with fail
 generalize ((w.alloc (.cells #[a0, a1, a2, a3, a4, a5, p] 27)).alloc (.cells #[b0, b1, b2, b3, b4, b5, q] 27)).alloc (.cells #[.int .i64 0, .string ⟨#[]⟩, .string ⟨#[]⟩, .string ⟨#[]⟩, .string ⟨#[]⟩, .string ⟨#[]⟩, .slice none 0 0] 27) = W at T ⊢
 have B0 : Hid (Bx W (w.heap.size) (cellsO (x) p).toArray) := by rw [ea]; exact T.b0
 have K0 := qh9 (hx.below T.bel)
 have B1 : Hid (Bx W (w.heap.size + 1) (cellsO (y) q).toArray) := by rw [eb]; exact T.b1
 have K1 := qh9 (hy.below T.bel)
 have R0 := qh9 T.b2
 have HW := qh9 T.bel
 have HT := qh9 (ht.below T.bel)
 try rw [← vO_cells ea]
 try rw [← vO_cells eb]
 clear T ea eb hx hy ht
 go_upto_region 3 with fail
 go_wp2_with (first | ((with_reducible refine loadB (.tmp 4) ?_ ?_ ?_ B0.out ?_); rfl; rfl; rfl) | ((with_reducible refine loadB (.tmp 5) ?_ ?_ ?_ B1.out ?_); rfl; rfl; rfl) | ((with_reducible refine loadG (.tmp 4) ?_ ?_ ?_ B0.out ?_); rfl; rfl; rfl) | ((with_reducible refine loadG (.tmp 5) ?_ ?_ ?_ B1.out ?_); rfl; rfl; rfl))
 with_reducible refine (CE.out _ _ _ K0.out K1.out).mono ?_
 rintro e w1 ⟨rfl, hb⟩
 replace B0 := qh9 (B0.out.keep hb)
 replace K0 := qh9 (K0.out.below hb)
 replace B1 := qh9 (B1.out.keep hb)
 replace K1 := qh9 (K1.out.below hb)
 replace R0 := qh9 (R0.out.keep hb)
 replace HW := qc9 HW hb
 replace HT := qh9 (HT.out.below hb)
 clear hb
 go_wp2_with (first | ((with_reducible refine loadB (.tmp 4) ?_ ?_ ?_ B0.out ?_); rfl; rfl; rfl) | ((with_reducible refine loadB (.tmp 5) ?_ ?_ ?_ B1.out ?_); rfl; rfl; rfl) | ((with_reducible refine loadG (.tmp 4) ?_ ?_ ?_ B0.out ?_); rfl; rfl; rfl) | ((with_reducible refine loadG (.tmp 5) ?_ ?_ ?_ B1.out ?_); rfl; rfl; rfl))
 with_reducible refine (truthR v _).mono ?_
 rintro e w2 ⟨pr, rfl, kr, hb⟩
 replace B0 := qh9 (B0.out.keep hb)
 replace K0 := qh9 (K0.out.below hb)
 replace B1 := qh9 (B1.out.keep hb)
 replace K1 := qh9 (K1.out.below hb)
 replace R0 := qh9 (R0.out.keep hb)
 replace HW := qc9 HW hb
 replace HT := qh9 (HT.out.below hb)
 clear hb
 replace kr := qh9 kr
 go_wp2_with (first | ((with_reducible refine storeB (w1 := w2) (g := w.heap.size + 1 + 1) (b := trO v) (p := pr) (.tmp 6) (.tmp 16) ?_ ?_ ?_ ?_ kr.out R0.out ?_); rfl; rfl; rfl; rfl) | ((with_reducible refine loadB (.tmp 4) ?_ ?_ ?_ B0.out ?_); rfl; rfl; rfl) | ((with_reducible refine loadB (.tmp 5) ?_ ?_ ?_ B1.out ?_); rfl; rfl; rfl) | ((with_reducible refine loadG (.tmp 4) ?_ ?_ ?_ B0.out ?_); rfl; rfl; rfl) | ((with_reducible refine loadG (.tmp 5) ?_ ?_ ?_ B1.out ?_); rfl; rfl; rfl))
 exact retHs rfl rfl R0.out rfl kr.out (by omega) HW.out
set_option maxHeartbeats 4000000 in
set_option maxRecDepth 100000 in
theorem twoCons (x y : Ob) (p q : Value) (w : World) (hx : Hd w x p) (hy : Hd w y q) (ht : Tab w) : Calls Tryz.prog 42 #[.string ⟨#[99, 111, 110, 115]⟩, vO x p, vO y q] w (RetH w (.cons x y)) := by
 obtain ⟨a0, a1, a2, a3, a4, a5, ea⟩ := cells7 (x) p
 obtain ⟨b0, b1, b2, b3, b4, b5, eb⟩ := cells7 (y) q
 have T := Bx3.new w #[a0, a1, a2, a3, a4, a5, p] #[b0, b1, b2, b3, b4, b5, q] #[.int .i64 0, .string ⟨#[]⟩, .string ⟨#[]⟩, .string ⟨#[]⟩, .string ⟨#[]⟩, .string ⟨#[]⟩, .slice none 0 0]
 rw [vO_cells ea, vO_cells eb]
 go_enter Tryz.func42, Tryz.ntmps42
 go_upto_region 1 with fail
 generalize ((w.alloc (.cells #[a0, a1, a2, a3, a4, a5, p] 27)).alloc (.cells #[b0, b1, b2, b3, b4, b5, q] 27)).alloc (.cells #[.int .i64 0, .string ⟨#[]⟩, .string ⟨#[]⟩, .string ⟨#[]⟩, .string ⟨#[]⟩, .string ⟨#[]⟩, .slice none 0 0] 27) = W at T ⊢
 have B0 : Hid (Bx W (w.heap.size) (cellsO (x) p).toArray) := by rw [ea]; exact T.b0
 have K0 := qh9 (hx.below T.bel)
 have B1 : Hid (Bx W (w.heap.size + 1) (cellsO (y) q).toArray) := by rw [eb]; exact T.b1
 have K1 := qh9 (hy.below T.bel)
 have R0 := qh9 T.b2
 have HW := qh9 T.bel
 have HT := qh9 (ht.below T.bel)
 try rw [← vO_cells ea]
 try rw [← vO_cells eb]
 clear T ea eb hx hy ht
 go_upto_region 5 with fail
 go_wp2_with (first | ((with_reducible refine loadB (.tmp 4) ?_ ?_ ?_ B0.out ?_); rfl; rfl; rfl) | ((with_reducible refine loadB (.tmp 5) ?_ ?_ ?_ B1.out ?_); rfl; rfl; rfl) | ((with_reducible refine loadG (.tmp 4) ?_ ?_ ?_ B0.out ?_); rfl; rfl; rfl) | ((with_reducible refine loadG (.tmp 5) ?_ ?_ ?_ B1.out ?_); rfl; rfl; rfl))
 with_reducible refine (consRH x y _ _ _ K0.out K1.out).mono ?_
 rintro e w1 ⟨pr, rfl, kr, hb⟩
 replace B0 := qh9 (B0.out.keep hb)
 replace K0 := qh9 (K0.out.below hb)
 replace B1 := qh9 (B1.out.keep hb)
 replace K1 := qh9 (K1.out.below hb)
 replace R0 := qh9 (R0.out.keep hb)
 replace HW := qc9 HW hb
 replace HT := qh9 (HT.out.below hb)
 clear hb
 replace kr := qh9 kr
 go_wp2_with (first | ((with_reducible refine storeB (w1 := w1) (g := w.heap.size + 1 + 1) (b := .cons x y) (p := pr) (.tmp 6) (.tmp 21) ?_ ?_ ?_ ?_ kr.out R0.out ?_); rfl; rfl; rfl; rfl) | ((with_reducible refine loadB (.tmp 4) ?_ ?_ ?_ B0.out ?_); rfl; rfl; rfl) | ((with_reducible refine loadB (.tmp 5) ?_ ?_ ?_ B1.out ?_); rfl; rfl; rfl) | ((with_reducible refine loadG (.tmp 4) ?_ ?_ ?_ B0.out ?_); rfl; rfl; rfl) | ((with_reducible refine loadG (.tmp 5) ?_ ?_ ?_ B1.out ?_); rfl; rfl; rfl))
 exact retHs rfl rfl R0.out rfl kr.out (by omega) HW.out
set_option maxHeartbeats 4000000 in
set_option maxRecDepth 100000 in
theorem twoSum (x y : Ob) (p q : Value) (w : World) (hx : Hd w x p) (hy : Hd w y q) (ht : Tab w) (d : Nat) (hd : d ≤ 1000) (h1 : Bd d x.fix) (h2 : Bd d y.fix) : Calls Tryz.prog 42 #[.string ⟨#[98, 105, 110, 97, 114, 121, 45, 43]⟩, vO x p, vO y q] w (RetH w (.num (x.fix + y.fix))) := by
 have CE : Hid (∀ W s t, Hd W x s → Hd W y t → Tab W → Calls Tryz.prog 70 #[vO x s, vO y t] W (RetH W (.num (x.fix + y.fix)))) := fun W s t g1 g2 hT => (sumR d hd x y s t W (Has W) g1 g2 h1 h2 hT).mono fun _ _ h => h.h
 clear h1 h2
 generalize (.num (x.fix + y.fix) : Ob) = res at CE ⊢
 obtain ⟨a0, a1, a2, a3, a4, a5, ea⟩ := cells7 (x) p
 obtain ⟨b0, b1, b2, b3, b4, b5, eb⟩ := cells7 (y) q
 have T := Bx3.new w #[a0, a1, a2, a3, a4, a5, p] #[b0, b1, b2, b3, b4, b5, q] #[.int .i64 0, .string ⟨#[]⟩, .string ⟨#[]⟩, .string ⟨#[]⟩, .string ⟨#[]⟩, .string ⟨#[]⟩, .slice none 0 0]
 rw [vO_cells ea, vO_cells eb]
 go_enter Tryz.func42, Tryz.ntmps42
 go_upto_region 1 with fail
 generalize ((w.alloc (.cells #[a0, a1, a2, a3, a4, a5, p] 27)).alloc (.cells #[b0, b1, b2, b3, b4, b5, q] 27)).alloc (.cells #[.int .i64 0, .string ⟨#[]⟩, .string ⟨#[]⟩, .string ⟨#[]⟩, .string ⟨#[]⟩, .string ⟨#[]⟩, .slice none 0 0] 27) = W at T ⊢
 have B0 : Hid (Bx W (w.heap.size) (cellsO (x) p).toArray) := by rw [ea]; exact T.b0
 have K0 := qh9 (hx.below T.bel)
 have B1 : Hid (Bx W (w.heap.size + 1) (cellsO (y) q).toArray) := by rw [eb]; exact T.b1
 have K1 := qh9 (hy.below T.bel)
 have R0 := qh9 T.b2
 have HW := qh9 T.bel
 have HT := qh9 (ht.below T.bel)
 try rw [← vO_cells ea]
 try rw [← vO_cells eb]
 clear T ea eb hx hy ht
 go_upto_region 7 with fail
 go_wp2_with (first | ((with_reducible refine loadB (.tmp 4) ?_ ?_ ?_ B0.out ?_); rfl; rfl; rfl) | ((with_reducible refine loadB (.tmp 5) ?_ ?_ ?_ B1.out ?_); rfl; rfl; rfl) | ((with_reducible refine loadG (.tmp 4) ?_ ?_ ?_ B0.out ?_); rfl; rfl; rfl) | ((with_reducible refine loadG (.tmp 5) ?_ ?_ ?_ B1.out ?_); rfl; rfl; rfl))
 with_reducible refine (CE.out _ _ _ K0.out K1.out HT.out).mono ?_
 rintro e w1 ⟨pr, rfl, kr, hb⟩
 replace B0 := qh9 (B0.out.keep hb)
 replace K0 := qh9 (K0.out.below hb)
 replace B1 := qh9 (B1.out.keep hb)
 replace K1 := qh9 (K1.out.below hb)
 replace R0 := qh9 (R0.out.keep hb)
 replace HW := qc9 HW hb
 replace HT := qh9 (HT.out.below hb)
 clear hb
 replace kr := qh9 kr
 go_wp2_with (first | ((with_reducible refine storeB (w1 := w1) (g := w.heap.size + 1 + 1) (b := res) (p := pr) (.tmp 6) (.tmp 26) ?_ ?_ ?_ ?_ kr.out R0.out ?_); rfl; rfl; rfl; rfl) | ((with_reducible refine loadB (.tmp 4) ?_ ?_ ?_ B0.out ?_); rfl; rfl; rfl) | ((with_reducible refine loadB (.tmp 5) ?_ ?_ ?_ B1.out ?_); rfl; rfl; rfl) | ((with_reducible refine loadG (.tmp 4) ?_ ?_ ?_ B0.out ?_); rfl; rfl; rfl) | ((with_reducible refine loadG (.tmp 5) ?_ ?_ ?_ B1.out ?_); rfl; rfl; rfl))
 exact retHs rfl rfl R0.out rfl kr.out (by omega) HW.out
set_option maxHeartbeats 4000000 in
set_option maxRecDepth 100000 in
theorem twoProduct (x y : Ob) (p q : Value) (w : World) (hx : Hd w x p) (hy : Hd w y q) (ht : Tab w) (d : Nat) (hd : d ≤ 1000) (h1 : Bd d x.fix) (h2 : Bd d y.fix) : Calls Tryz.prog 42 #[.string ⟨#[98, 105, 110, 97, 114, 121, 45, 42]⟩, vO x p, vO y q] w (RetH w (.num (x.fix * y.fix))) := by
 have CE : Hid (∀ W s t, Hd W x s → Hd W y t → Tab W → Calls Tryz.prog 71 #[vO x s, vO y t] W (RetH W (.num (x.fix * y.fix)))) := fun W s t g1 g2 hT => (productR d hd x y s t W (Has W) g1 g2 h1 h2 hT).mono fun _ _ h => h.h
 clear h1 h2
 generalize (.num (x.fix * y.fix) : Ob) = res at CE ⊢
 obtain ⟨a0, a1, a2, a3, a4, a5, ea⟩ := cells7 (x) p
 obtain ⟨b0, b1, b2, b3, b4, b5, eb⟩ := cells7 (y) q
 have T := Bx3.new w #[a0, a1, a2, a3, a4, a5, p] #[b0, b1, b2, b3, b4, b5, q] #[.int .i64 0, .string ⟨#[]⟩, .string ⟨#[]⟩, .string ⟨#[]⟩, .string ⟨#[]⟩, .string ⟨#[]⟩, .slice none 0 0]
 rw [vO_cells ea, vO_cells eb]
 go_enter Tryz.func42, Tryz.ntmps42
 go_upto_region 1 with fail
 generalize ((w.alloc (.cells #[a0, a1, a2, a3, a4, a5, p] 27)).alloc (.cells #[b0, b1, b2, b3, b4, b5, q] 27)).alloc (.cells #[.int .i64 0, .string ⟨#[]⟩, .string ⟨#[]⟩, .string ⟨#[]⟩, .string ⟨#[]⟩, .string ⟨#[]⟩, .slice none 0 0] 27) = W at T ⊢
 have B0 : Hid (Bx W (w.heap.size) (cellsO (x) p).toArray) := by rw [ea]; exact T.b0
 have K0 := qh9 (hx.below T.bel)
 have B1 : Hid (Bx W (w.heap.size + 1) (cellsO (y) q).toArray) := by rw [eb]; exact T.b1
 have K1 := qh9 (hy.below T.bel)
 have R0 := qh9 T.b2
 have HW := qh9 T.bel
 have HT := qh9 (ht.below T.bel)
 try rw [← vO_cells ea]
 try rw [← vO_cells eb]
 clear T ea eb hx hy ht
 go_upto_region 9 with fail
 go_wp2_with (first | ((with_reducible refine loadB (.tmp 4) ?_ ?_ ?_ B0.out ?_); rfl; rfl; rfl) | ((with_reducible refine loadB (.tmp 5) ?_ ?_ ?_ B1.out ?_); rfl; rfl; rfl) | ((with_reducible refine loadG (.tmp 4) ?_ ?_ ?_ B0.out ?_); rfl; rfl; rfl) | ((with_reducible refine loadG (.tmp 5) ?_ ?_ ?_ B1.out ?_); rfl; rfl; rfl))
 with_reducible refine (CE.out _ _ _ K0.out K1.out HT.out).mono ?_
 rintro e w1 ⟨pr, rfl, kr, hb⟩
 replace B0 := qh9 (B0.out.keep hb)
 replace K0 := qh9 (K0.out.below hb)
 replace B1 := qh9 (B1.out.keep hb)
 replace K1 := qh9 (K1.out.below hb)
 replace R0 := qh9 (R0.out.keep hb)
 replace HW := qc9 HW hb
 replace HT := qh9 (HT.out.below hb)
 clear hb
 replace kr := qh9 kr
 go_wp2_with (first | ((with_reducible refine storeB (w1 := w1) (g := w.heap.size + 1 + 1) (b := res) (p := pr) (.tmp 6) (.tmp 31) ?_ ?_ ?_ ?_ kr.out R0.out ?_); rfl; rfl; rfl; rfl) | ((with_reducible refine loadB (.tmp 4) ?_ ?_ ?_ B0.out ?_); rfl; rfl; rfl) | ((with_reducible refine loadB (.tmp 5) ?_ ?_ ?_ B1.out ?_); rfl; rfl; rfl) | ((with_reducible refine loadG (.tmp 4) ?_ ?_ ?_ B0.out ?_); rfl; rfl; rfl) | ((with_reducible refine loadG (.tmp 5) ?_ ?_ ?_ B1.out ?_); rfl; rfl; rfl))
 exact retHs rfl rfl R0.out rfl kr.out (by omega) HW.out
set_option maxHeartbeats 4000000 in
set_option maxRecDepth 100000 in
theorem twoLess (x y : Ob) (p q : Value) (w : World) (hx : Hd w x p) (hy : Hd w y q) (ht : Tab w) (d : Nat) (hd : d ≤ 1000) (h1 : Bd d x.fix) (h2 : Bd d y.fix) : Calls Tryz.prog 42 #[.string ⟨#[60]⟩, vO x p, vO y q] w (RetH w (trO (decide (ordQ x.fix y.fix < 0)))) := by
 have CE : Hid (∀ W s t, Hd W x s → Hd W y t → Tab W → Calls Tryz.prog 72 #[vO x s, vO y t] W (RetB W (decide (ordQ x.fix y.fix < 0)))) := fun W s t g1 g2 hT => lessR d hd x y s t W (Has W) g1 g2 h1 h2 hT
 clear h1 h2
 generalize decide (ordQ x.fix y.fix < 0) = v at CE ⊢
 obtain ⟨a0, a1, a2, a3, a4, a5, ea⟩ := cells7 (x) p
 obtain ⟨b0, b1, b2, b3, b4, b5, eb⟩ := cells7 (y) q
 have T := Bx3.new w #[a0, a1, a2, a3, a4, a5, p] #[b0, b1, b2, b3, b4, b5, q] #[.int .i64 0, .string ⟨#[]⟩, .string ⟨#[]⟩, .string ⟨#[]⟩, .string ⟨#[]⟩, .string ⟨#[]⟩, .slice none 0 0]
 rw [vO_cells ea, vO_cells eb]
 go_enter Tryz.func42, Tryz.ntmps42
 go_upto_region 1 with fail
 generalize ((w.alloc (.cells #[a0, a1, a2, a3, a4, a5, p] 27)).alloc (.cells #[b0, b1, b2, b3, b4, b5, q] 27)).alloc (.cells #[.int .i64 0, .string ⟨#[]⟩, .string ⟨#[]⟩, .string ⟨#[]⟩, .string ⟨#[]⟩, .string ⟨#[]⟩, .slice none 0 0] 27) = W at T ⊢
 have B0 : Hid (Bx W (w.heap.size) (cellsO (x) p).toArray) := by rw [ea]; exact T.b0
 have K0 := qh9 (hx.below T.bel)
 have B1 : Hid (Bx W (w.heap.size + 1) (cellsO (y) q).toArray) := by rw [eb]; exact T.b1
 have K1 := qh9 (hy.below T.bel)
 have R0 := qh9 T.b2
 have HW := qh9 T.bel
 have HT := qh9 (ht.below T.bel)
 try rw [← vO_cells ea]
 try rw [← vO_cells eb]
 clear T ea eb hx hy ht
 go_upto_region 11 with fail
 go_wp2_with (first | ((with_reducible refine loadB (.tmp 4) ?_ ?_ ?_ B0.out ?_); rfl; rfl; rfl) | ((with_reducible refine loadB (.tmp 5) ?_ ?_ ?_ B1.out ?_); rfl; rfl; rfl) | ((with_reducible refine loadG (.tmp 4) ?_ ?_ ?_ B0.out ?_); rfl; rfl; rfl) | ((with_reducible refine loadG (.tmp 5) ?_ ?_ ?_ B1.out ?_); rfl; rfl; rfl))
 with_reducible refine (CE.out _ _ _ K0.out K1.out HT.out).mono ?_
 rintro e w1 ⟨rfl, hb⟩
 replace B0 := qh9 (B0.out.keep hb)
 replace K0 := qh9 (K0.out.below hb)
 replace B1 := qh9 (B1.out.keep hb)
 replace K1 := qh9 (K1.out.below hb)
 replace R0 := qh9 (R0.out.keep hb)
 replace HW := qc9 HW hb
 replace HT := qh9 (HT.out.below hb)
 clear hb
 go_wp2_with (first | ((with_reducible refine loadB (.tmp 4) ?_ ?_ ?_ B0.out ?_); rfl; rfl; rfl) | ((with_reducible refine loadB (.tmp 5) ?_ ?_ ?_ B1.out ?_); rfl; rfl; rfl) | ((with_reducible refine loadG (.tmp 4) ?_ ?_ ?_ B0.out ?_); rfl; rfl; rfl) | ((with_reducible refine loadG (.tmp 5) ?_ ?_ ?_ B1.out ?_); rfl; rfl; rfl))
 with_reducible refine (truthR v _).mono ?_
 rintro e w2 ⟨pr, rfl, kr, hb⟩
 replace B0 := qh9 (B0.out.keep hb)
 replace K0 := qh9 (K0.out.below hb)
 replace B1 := qh9 (B1.out.keep hb)
 replace K1 := qh9 (K1.out.below hb)
 replace R0 := qh9 (R0.out.keep hb)
 replace HW := qc9 HW hb
 replace HT := qh9 (HT.out.below hb)
 clear hb
 replace kr := qh9 kr
 go_wp2_with (first | ((with_reducible refine storeB (w1 := w2) (g := w.heap.size + 1 + 1) (b := trO v) (p := pr) (.tmp 6) (.tmp 37) ?_ ?_ ?_ ?_ kr.out R0.out ?_); rfl; rfl; rfl; rfl) | ((with_reducible refine loadB (.tmp 4) ?_ ?_ ?_ B0.out ?_); rfl; rfl; rfl) | ((with_reducible refine loadB (.tmp 5) ?_ ?_ ?_ B1.out ?_); rfl; rfl; rfl) | ((with_reducible refine loadG (.tmp 4) ?_ ?_ ?_ B0.out ?_); rfl; rfl; rfl) | ((with_reducible refine loadG (.tmp 5) ?_ ?_ ?_ B1.out ?_); rfl; rfl; rfl))
 exact retHs rfl rfl R0.out rfl kr.out (by omega) HW.out
set_option maxHeartbeats 4000000 in
set_option maxRecDepth 100000 in
theorem twoAppend (x y : Ob) (p q : Value) (w : World) (hx : Hd w x p) (hy : Hd w y q) (hlx : x.strV.length ≤ 2000) (hly : y.strV.length ≤ 2000) : Calls Tryz.prog 42 #[.string ⟨#[115, 116, 114, 105, 110, 103, 45, 97, 112, 112, 101, 110, 100]⟩, vO x p, vO y q] w (RetH w (.str (x.strV ++ y.strV))) := by
 have hsz : (BA x.strV).size + (BA y.strV).size ≤ 1000000 := by rw [BA_size, BA_size]; omega
 have CT : Hid (∀ (z : Ob) W q, Calls Tryz.prog 68 #[vO z q] W (RetY W (.string (BA z.strV)))) := fun z W q => strR z q W
 have CU : Hid (∀ W, Calls Tryz.prog 9 #[.string (BA x.strV ++ BA y.strV)] W (RetH W (.str (x.strV ++ y.strV)))) := fun W => by
  have h := textRH (BA x.strV ++ BA y.strV) W
  rw [BA_app, LA_BA] at h
  rw [BA_app]
  exact h
 clear hlx hly
 generalize Ob.str (x.strV ++ y.strV) = res at CU ⊢
 obtain ⟨a0, a1, a2, a3, a4, a5, ea⟩ := cells7 (x) p
 obtain ⟨b0, b1, b2, b3, b4, b5, eb⟩ := cells7 (y) q
 have T := Bx3.new w #[a0, a1, a2, a3, a4, a5, p] #[b0, b1, b2, b3, b4, b5, q] #[.int .i64 0, .string ⟨#[]⟩, .string ⟨#[]⟩, .string ⟨#[]⟩, .string ⟨#[]⟩, .string ⟨#[]⟩, .slice none 0 0]
 rw [vO_cells ea, vO_cells eb]
 go_enter Tryz.func42, Tryz.ntmps42
 go_upto_region 1 with fail
 generalize ((w.alloc (.cells #[a0, a1, a2, a3, a4, a5, p] 27)).alloc (.cells #[b0, b1, b2, b3, b4, b5, q] 27)).alloc (.cells #[.int .i64 0, .string ⟨#[]⟩, .string ⟨#[]⟩, .string ⟨#[]⟩, .string ⟨#[]⟩, .string ⟨#[]⟩, .slice none 0 0] 27) = W at T ⊢
 have B0 : Hid (Bx W (w.heap.size) (cellsO (x) p).toArray) := by rw [ea]; exact T.b0
 have K0 := qh9 (hx.below T.bel)
 have B1 : Hid (Bx W (w.heap.size + 1) (cellsO (y) q).toArray) := by rw [eb]; exact T.b1
 have K1 := qh9 (hy.below T.bel)
 have R0 := qh9 T.b2
 have HW := qh9 T.bel
 try rw [← vO_cells ea]
 try rw [← vO_cells eb]
 clear T ea eb hx hy
 go_upto_region 18 with fail
 refine wp_region_grow (l := _) 6 (by kernel_rfl) (by kernel_rfl) (fun i => [63, 64, 65, 66, 67, 68].getD i 0) (LR [LV (vO (x) p), LV (.string (BA x.strV)), LV (vO (y) q), LV (.string (BA y.strV)), LV (.string (BA x.strV ++ BA y.strV)), LH (res)]) (LR_mono (l := [LV (vO (x) p), LV (.string (BA x.strV)), LV (vO (y) q), LV (.string (BA y.strV)), LV (.string (BA x.strV ++ BA y.strV)), LH (res)]) ⟨mLV _, mLV _, mLV _, mLV _, mLV _, mLH _, trivial⟩) (by
  intro i j hi hj h
  exact inj_getD [63, 64, 65, 66, 67, 68] (by decide) i j hi hj h) (by
  intro i hi
  exact lt_getD 87 [63, 64, 65, 66, 67, 68] (by decide) i hi) ?step ?done
 case step =>
  intro i hi a w9 v lo hi' hoth hb hw
  have sl4 : a.tmps[4]? = some (.pointer (some ⟨w.heap.size, 0, none⟩)) := (hoth 4 (fun j hj => by
   have := ne_getD 4 [63, 64, 65, 66, 67, 68] (by decide) j hj
   exact this)).trans rfl
  have sl5 : a.tmps[5]? = some (.pointer (some ⟨w.heap.size + 1, 0, none⟩)) := (hoth 5 (fun j hj => by
   have := ne_getD 5 [63, 64, 65, 66, 67, 68] (by decide) j hj
   exact this)).trans rfl
  match i, hi with
  | 0, _ =>
   exact gw_box rfl (wanted_plain rfl) (.tmp 4) rfl (eval_of sl4) (B0.out.keep hb) ⟨_, rfl, Below.refl _ _, rfl⟩
  | 1, _ =>
   obtain ⟨s0, r0, _⟩ := hw 0 (by omega) (by kernel_rfl)
   have e0 : v 0 = vO (x) p := r0
   rw [e0] at s0
   refine gw_t rfl (wanted_plain rfl) 68 63 _ _ rfl (fun v w => by go_simp) s0 ?_
   with_reducible refine (CT.out x w9 _).mono ?_
   rintro e w3 ⟨rfl, hb3⟩
   exact ⟨_, rfl, _, rfl, hb3, rfl⟩
  | 2, _ =>
   exact gw_box rfl (wanted_plain rfl) (.tmp 5) rfl (eval_of sl5) (B1.out.keep hb) ⟨_, rfl, Below.refl _ _, rfl⟩
  | 3, _ =>
   obtain ⟨s0, r0, _⟩ := hw 2 (by omega) (by kernel_rfl)
   have e0 : v 2 = vO (y) q := r0
   rw [e0] at s0
   refine gw_t rfl (wanted_plain rfl) 68 65 _ _ rfl (fun v w => by go_simp) s0 ?_
   with_reducible refine (CT.out y w9 _).mono ?_
   rintro e w3 ⟨rfl, hb3⟩
   exact ⟨_, rfl, _, rfl, hb3, rfl⟩
  | 4, _ =>
   obtain ⟨s0, r0, _⟩ := hw 1 (by omega) (by kernel_rfl)
   have e0 : v 1 = .string (BA x.strV) := r0
   rw [e0] at s0
   obtain ⟨s1, r1, _⟩ := hw 3 (by omega) (by kernel_rfl)
   have e1 : v 3 = .string (BA y.strV) := r1
   rw [e1] at s1
   exact gw_cat rfl (wanted_plain rfl) 64 66 _ _ rfl s0 s1 hsz ⟨_, rfl, Below.refl _ _, rfl⟩
  | 5, _ =>
   obtain ⟨s0, r0, _⟩ := hw 4 (by omega) (by kernel_rfl)
   have e0 : v 4 = .string (BA x.strV ++ BA y.strV) := r0
   rw [e0] at s0
   refine gw_t rfl (wanted_plain rfl) 9 67 _ _ rfl (fun v w => by go_simp) s0 ?_
   with_reducible refine (CU.out w9).mono ?_
   rintro e w3 ⟨p, rfl, hp, hb3⟩
   exact ⟨_, rfl, _, rfl, hb3, p, rfl, hp⟩
 case done =>
  intro a w9 v lo hi' hdef hsz hoth hb hj hap
  obtain ⟨_, ⟨pr, hv5, kr⟩, hlo5, hhi5⟩ := hj 5 (by omega)
  have ha := eq_puts hdef hsz hoth (fun i hi => (hj i hi).1)
  subst ha
  clear hj hoth hdef hsz hap
  simp only [puts, List.getD_cons_zero, List.getD_cons_succ, hv5]
  generalize v 0 = v0
  generalize v 1 = v1
  generalize v 2 = v2
  generalize v 3 = v3
  generalize v 4 = v4
  clear hv5
  simp only [Act.put, List.setIfInBounds_toArray, List.set_cons_zero, List.set_cons_succ]
  show wpList _ _ _ [_] _ _
  replace B0 := qh9 (B0.out.keep hb)
  replace K0 := qh9 (K0.out.below hb)
  replace B1 := qh9 (B1.out.keep hb)
  replace K1 := qh9 (K1.out.below hb)
  replace R0 := qh9 (R0.out.keep hb)
  replace HW := qc9 HW hb
  clear hb
  replace kr := qh9 kr
  go_wp2_with (first | ((with_reducible refine storeB (w1 := w9) (g := w.heap.size + 1 + 1) (b := res) (p := pr) (.tmp 6) (.tmp 68) ?_ ?_ ?_ ?_ kr.out R0.out ?_); rfl; rfl; rfl; rfl) | ((with_reducible refine loadB (.tmp 4) ?_ ?_ ?_ B0.out ?_); rfl; rfl; rfl) | ((with_reducible refine loadB (.tmp 5) ?_ ?_ ?_ B1.out ?_); rfl; rfl; rfl) | ((with_reducible refine loadG (.tmp 4) ?_ ?_ ?_ B0.out ?_); rfl; rfl; rfl) | ((with_reducible refine loadG (.tmp 5) ?_ ?_ ?_ B1.out ?_); rfl; rfl; rfl))
  exact retHs rfl rfl R0.out rfl kr.out (by omega) HW.out
set_option maxHeartbeats 4000000 in
set_option maxRecDepth 100000 in
theorem twoByteN (x y : Ob) (p q : Value) (w : World) (hx : Hd w x p) (hy : Hd w y q) (CX : Hid (∀ W s t, Hd W x s → Hd W y t → Calls Tryz.prog 73 #[vO x s, vO y t] W (RetIB W 0 false))) : Calls Tryz.prog 42 #[.string ⟨#[115, 116, 114, 105, 110, 103, 45, 98, 121, 116, 101]⟩, vO x p, vO y q] w (RetH w .nil) := by
 obtain ⟨a0, a1, a2, a3, a4, a5, ea⟩ := cells7 (x) p
 obtain ⟨b0, b1, b2, b3, b4, b5, eb⟩ := cells7 (y) q
 have T := Bx3.new w #[a0, a1, a2, a3, a4, a5, p] #[b0, b1, b2, b3, b4, b5, q] #[.int .i64 0, .string ⟨#[]⟩, .string ⟨#[]⟩, .string ⟨#[]⟩, .string ⟨#[]⟩, .string ⟨#[]⟩, .slice none 0 0]
 rw [vO_cells ea, vO_cells eb]
 go_enter Tryz.func42, Tryz.ntmps42
 go_upto_region 1 with fail
 generalize ((w.alloc (.cells #[a0, a1, a2, a3, a4, a5, p] 27)).alloc (.cells #[b0, b1, b2, b3, b4, b5, q] 27)).alloc (.cells #[.int .i64 0, .string ⟨#[]⟩, .string ⟨#[]⟩, .string ⟨#[]⟩, .string ⟨#[]⟩, .string ⟨#[]⟩, .slice none 0 0] 27) = W at T ⊢
 have B0 : Hid (Bx W (w.heap.size) (cellsO (x) p).toArray) := by rw [ea]; exact T.b0
 have K0 := qh9 (hx.below T.bel)
 have B1 : Hid (Bx W (w.heap.size + 1) (cellsO (y) q).toArray) := by rw [eb]; exact T.b1
 have K1 := qh9 (hy.below T.bel)
 have R0 := qh9 T.b2
 have HW := qh9 T.bel
 try rw [← vO_cells ea]
 try rw [← vO_cells eb]
 clear T ea eb hx hy
 go_upto_region 20 with fail
 go_wp2_with (first | ((with_reducible refine loadB (.tmp 4) ?_ ?_ ?_ B0.out ?_); rfl; rfl; rfl) | ((with_reducible refine loadB (.tmp 5) ?_ ?_ ?_ B1.out ?_); rfl; rfl; rfl) | ((with_reducible refine loadG (.tmp 4) ?_ ?_ ?_ B0.out ?_); rfl; rfl; rfl) | ((with_reducible refine loadG (.tmp 5) ?_ ?_ ?_ B1.out ?_); rfl; rfl; rfl))
 with_reducible refine (CX.out _ _ _ K0.out K1.out).mono ?_
 rintro e w1 ⟨rfl, hb⟩
 replace B0 := qh9 (B0.out.keep hb)
 replace K0 := qh9 (K0.out.below hb)
 replace B1 := qh9 (B1.out.keep hb)
 replace K1 := qh9 (K1.out.below hb)
 replace R0 := qh9 (R0.out.keep hb)
 replace HW := qc9 HW hb
 clear hb
 go_wp2_with (first | ((with_reducible refine loadB (.tmp 4) ?_ ?_ ?_ B0.out ?_); rfl; rfl; rfl) | ((with_reducible refine loadB (.tmp 5) ?_ ?_ ?_ B1.out ?_); rfl; rfl; rfl) | ((with_reducible refine loadG (.tmp 4) ?_ ?_ ?_ B0.out ?_); rfl; rfl; rfl) | ((with_reducible refine loadG (.tmp 5) ?_ ?_ ?_ B1.out ?_); rfl; rfl; rfl))
 with_reducible refine (nilRH _).mono ?_
 rintro e w2 ⟨pr, rfl, kr, hb⟩
 replace B0 := qh9 (B0.out.keep hb)
 replace K0 := qh9 (K0.out.below hb)
 replace B1 := qh9 (B1.out.keep hb)
 replace K1 := qh9 (K1.out.below hb)
 replace R0 := qh9 (R0.out.keep hb)
 replace HW := qc9 HW hb
 clear hb
 replace kr := qh9 kr
 go_wp2_with (first | ((with_reducible refine storeB (w1 := w2) (g := w.heap.size + 1 + 1) (b := .nil) (p := pr) (.tmp 6) (.tmp 79) ?_ ?_ ?_ ?_ kr.out R0.out ?_); rfl; rfl; rfl; rfl) | ((with_reducible refine loadB (.tmp 4) ?_ ?_ ?_ B0.out ?_); rfl; rfl; rfl) | ((with_reducible refine loadB (.tmp 5) ?_ ?_ ?_ B1.out ?_); rfl; rfl; rfl) | ((with_reducible refine loadG (.tmp 4) ?_ ?_ ?_ B0.out ?_); rfl; rfl; rfl) | ((with_reducible refine loadG (.tmp 5) ?_ ?_ ?_ B1.out ?_); rfl; rfl; rfl))
 exact retHs rfl rfl R0.out rfl kr.out (by omega) HW.out
set_option maxHeartbeats 4000000 in
set_option maxRecDepth 100000 in
theorem twoByteS (x y : Ob) (p q : Value) (w : World) (hx : Hd w x p) (hy : Hd w y q) (ht : Tab w) (k : Nat) (hk : k < x.f5.size) (CX : Hid (∀ W s t, Hd W x s → Hd W y t → Calls Tryz.prog 73 #[vO x s, vO y t] W (RetIB W (k : Int) true))) : Calls Tryz.prog 42 #[.string ⟨#[115, 116, 114, 105, 110, 103, 45, 98, 121, 116, 101]⟩, vO x p, vO y q] w (RetH w (inO (x.f5[k].toNat : Int))) := by
 have ew : wrap64 (x.f5[k].toNat : Int) = x.f5[k].toNat := IntWalk.wrap64_in _ (by have := x.f5[k].toNat_lt; omega)
 have CI : Hid (∀ W, Tab W → Calls Tryz.prog 10 #[.int .i64 (x.f5[k].toNat : Int)] W (RetH W (inO (x.f5[k].toNat : Int)))) := fun W hT => intRH _ W (i64_small (by have := x.f5[k].toNat_lt; omega)) hT
 generalize inO (x.f5[k].toNat : Int) = res at CI ⊢
 have hk0 : (0 : Int) ≤ (k : Int) := by omega
 have hk1 : (k : Int) < (x.f5.size : Int) := by omega
 obtain ⟨a0, a1, a2, a3, a4, a5, ea⟩ := cells7 (x) p
 obtain ⟨b0, b1, b2, b3, b4, b5, eb⟩ := cells7 (y) q
 have T := Bx3.new w #[a0, a1, a2, a3, a4, a5, p] #[b0, b1, b2, b3, b4, b5, q] #[.int .i64 0, .string ⟨#[]⟩, .string ⟨#[]⟩, .string ⟨#[]⟩, .string ⟨#[]⟩, .string ⟨#[]⟩, .slice none 0 0]
 rw [vO_cells ea, vO_cells eb]
 go_enter Tryz.func42, Tryz.ntmps42
 go_upto_region 1 with fail
 generalize ((w.alloc (.cells #[a0, a1, a2, a3, a4, a5, p] 27)).alloc (.cells #[b0, b1, b2, b3, b4, b5, q] 27)).alloc (.cells #[.int .i64 0, .string ⟨#[]⟩, .string ⟨#[]⟩, .string ⟨#[]⟩, .string ⟨#[]⟩, .string ⟨#[]⟩, .slice none 0 0] 27) = W at T ⊢
 have B0 : Hid (Bx W (w.heap.size) (cellsO (x) p).toArray) := by rw [ea]; exact T.b0
 have K0 := qh9 (hx.below T.bel)
 have B1 : Hid (Bx W (w.heap.size + 1) (cellsO (y) q).toArray) := by rw [eb]; exact T.b1
 have K1 := qh9 (hy.below T.bel)
 have R0 := qh9 T.b2
 have HW := qh9 T.bel
 have HT := qh9 (ht.below T.bel)
 try rw [← vO_cells ea]
 try rw [← vO_cells eb]
 clear T ea eb hx hy ht
 go_upto_region 20 with fail
 go_wp2_with (first | ((with_reducible refine loadB (.tmp 4) ?_ ?_ ?_ B0.out ?_); rfl; rfl; rfl) | ((with_reducible refine loadB (.tmp 5) ?_ ?_ ?_ B1.out ?_); rfl; rfl; rfl) | ((with_reducible refine loadG (.tmp 4) ?_ ?_ ?_ B0.out ?_); rfl; rfl; rfl) | ((with_reducible refine loadG (.tmp 5) ?_ ?_ ?_ B1.out ?_); rfl; rfl; rfl))
 with_reducible refine (CX.out _ _ _ K0.out K1.out).mono ?_
 rintro e w1 ⟨rfl, hb⟩
 replace B0 := qh9 (B0.out.keep hb)
 replace K0 := qh9 (K0.out.below hb)
 replace B1 := qh9 (B1.out.keep hb)
 replace K1 := qh9 (K1.out.below hb)
 replace R0 := qh9 (R0.out.keep hb)
 replace HW := qc9 HW hb
 replace HT := qh9 (HT.out.below hb)
 clear hb
 obtain ⟨m0, m1, m2, m3, m4, m5, m6⟩ := Bx.c (BxK B0.out)
 clear m0 m1 m2 m3 m4 m6
 skip
 go_wp2_with (first | ((with_reducible refine loadB (.tmp 4) ?_ ?_ ?_ B0.out ?_); rfl; rfl; rfl) | ((with_reducible refine loadB (.tmp 5) ?_ ?_ ?_ B1.out ?_); rfl; rfl; rfl) | ((with_reducible refine loadG (.tmp 4) ?_ ?_ ?_ B0.out ?_); rfl; rfl; rfl) | ((with_reducible refine loadG (.tmp 5) ?_ ?_ ?_ B1.out ?_); rfl; rfl; rfl))
 with_reducible refine (CI.out _ HT.out).mono ?_
 rintro e w2 ⟨pr, rfl, kr, hb⟩
 replace B0 := qh9 (B0.out.keep hb)
 replace K0 := qh9 (K0.out.below hb)
 replace B1 := qh9 (B1.out.keep hb)
 replace K1 := qh9 (K1.out.below hb)
 replace R0 := qh9 (R0.out.keep hb)
 replace HW := qc9 HW hb
 replace HT := qh9 (HT.out.below hb)
 clear hb
 replace kr := qh9 kr
 go_wp2_with (first | ((with_reducible refine storeB (w1 := w2) (g := w.heap.size + 1 + 1) (b := res) (p := pr) (.tmp 6) (.tmp 85) ?_ ?_ ?_ ?_ kr.out R0.out ?_); rfl; rfl; rfl; rfl) | ((with_reducible refine loadB (.tmp 4) ?_ ?_ ?_ B0.out ?_); rfl; rfl; rfl) | ((with_reducible refine loadB (.tmp 5) ?_ ?_ ?_ B1.out ?_); rfl; rfl; rfl) | ((with_reducible refine loadG (.tmp 4) ?_ ?_ ?_ B0.out ?_); rfl; rfl; rfl) | ((with_reducible refine loadG (.tmp 5) ?_ ?_ ?_ B1.out ?_); rfl; rfl; rfl))
 exact retHs rfl rfl R0.out rfl kr.out (by omega) HW.out
theorem twoByte (x y : Ob) (p q : Value) (w : World) (hx : Hd w x p) (hy : Hd w y q) (ht : Tab w) (hl : x.strV.length ≤ 2000) (h64 : IntO y) : Calls Tryz.prog 42 #[.string ⟨#[115, 116, 114, 105, 110, 103, 45, 98, 121, 116, 101]⟩, vO x p, vO y q] w (RetH w (match idxV x.strV.length y with
 | some k => inO ((x.strV.getD k 0).toNat : Int)
 | none => .nil)) := by
 have CX := fun W s t (h1 : Hd W x s) (h2 : Hd W y t) => indexR x y s t W h1 h2 hl h64
 have hk : ∀ k, idxV x.strV.length y = some k → k < x.strV.length := fun k h => idxV_lt h
 generalize idxV x.strV.length y = r at CX hk ⊢
 cases r with
 | none => exact twoByteN x y p q w hx hy CX
 | some k =>
  have hk1 := hk k rfl
  have hs : x.f5 = BA x.strV := by
   cases x with
   | str s => rfl
   | _ => simp [Ob.strV] at hk1
  have hk2 : k < x.f5.size := by rw [hs, BA_size]; exact hk1
  have e : x.strV.getD k 0 = x.f5[k] := by
   rw [List.getD_eq_getElem?_getD, List.getElem?_eq_getElem hk1]
   show x.strV[k] = x.f5[k]
   simp only [hs]
   rfl
  have h := twoByteS x y p q w hx hy ht k hk2 CX
  rw [← e] at h
  exact h
def LSx : Lv := fun v lo hi w => v = .pointer (some ⟨lo, 0, none⟩) ∧ Sy.SB w lo (.string ⟨#[]⟩) (.string ⟨#[]⟩) ∧ lo < hi
theorem mLSx : Mon LSx := fun _ _ _ _ _ ⟨h, k, l⟩ hm hb => ⟨h, (hb.block _ (by omega)).trans k, l⟩
section
variable {Q : Exit → Act → World → Prop} {ops : Array Oper} {K : Act → World → Prop} {a : Act} {w : World} {i : Nat} {o : Oper}
theorem gw_bld (ho : ops[i]? = some o) (hw : Region.wanted o (yielded ops a.tmps) = true) (s1 s2 : Tmp) (u v : ByteArray) (hop : o.op = Op.build 24 #[(0, .tmp s1), (1, .tmp s2)]) (hx : a.tmps[s1]? = some (.string u)) (hy : a.tmps[s2]? = some (.string v)) (hK : K (a.put o.dst (.agg #[.string u, .string v])) w) : wpOp Tryz.prog ops Q i K a w :=
 wpOp_step ho fun K' hK' => by
  rw [if_pos hw]
  unfold Oper.wp
  simp only [execOp, hop]
  go_simp
  exact hK' _ _ hK
theorem gw_alS (ho : ops[i]? = some o) (hw : Region.wanted o (yielded ops a.tmps) = true) (hop : o.op = .alloc 24) (hK : K (a.put o.dst (.pointer (some ⟨w.heap.size, 0, none⟩))) (w.alloc (.cells #[.string ⟨#[]⟩, .string ⟨#[]⟩] 24))) : wpOp Tryz.prog ops Q i K a w :=
 wpOp_step ho fun K' hK' => by
  rw [if_pos hw]
  unfold Oper.wp
  simp only [execOp, hop]
  go_simp
  exact hK' _ _ hK
end
set_option maxHeartbeats 4000000 in
set_option maxRecDepth 100000 in
theorem twoInternA (x y : Ob) (p q : Value) (w : World) (hx : Hd w x p) (hy : Hd w y q) (h1 : ¬ x.kd = 3) : Calls Tryz.prog 42 #[.string ⟨#[105, 110, 116, 101, 114, 110]⟩, vO x p, vO y q] w (RetH w .nil) := by
 have CT : Hid (∀ (z : Ob) W q, Calls Tryz.prog 68 #[vO z q] W (RetY W (.string (BA z.strV)))) := fun z W q => strR z q W
 obtain ⟨a0, a1, a2, a3, a4, a5, ea⟩ := cells7 (x) p
 obtain ⟨b0, b1, b2, b3, b4, b5, eb⟩ := cells7 (y) q
 have T := Bx3.new w #[a0, a1, a2, a3, a4, a5, p] #[b0, b1, b2, b3, b4, b5, q] #[.int .i64 0, .string ⟨#[]⟩, .string ⟨#[]⟩, .string ⟨#[]⟩, .string ⟨#[]⟩, .string ⟨#[]⟩, .slice none 0 0]
 rw [vO_cells ea, vO_cells eb]
 go_enter Tryz.func42, Tryz.ntmps42
 go_upto_region 1 with fail
 generalize ((w.alloc (.cells #[a0, a1, a2, a3, a4, a5, p] 27)).alloc (.cells #[b0, b1, b2, b3, b4, b5, q] 27)).alloc (.cells #[.int .i64 0, .string ⟨#[]⟩, .string ⟨#[]⟩, .string ⟨#[]⟩, .string ⟨#[]⟩, .string ⟨#[]⟩, .slice none 0 0] 27) = W at T ⊢
 have B0 : Hid (Bx W (w.heap.size) (cellsO (x) p).toArray) := by rw [ea]; exact T.b0
 have K0 := qh9 (hx.below T.bel)
 have B1 : Hid (Bx W (w.heap.size + 1) (cellsO (y) q).toArray) := by rw [eb]; exact T.b1
 have K1 := qh9 (hy.below T.bel)
 have R0 := qh9 T.b2
 have HW := qh9 T.bel
 try rw [← vO_cells ea]
 try rw [← vO_cells eb]
 clear T ea eb hx hy
 go_upto_region 13 with fail
 refine wp_region_grow (l := _) 6 (by kernel_rfl) (by kernel_rfl) (fun i => [40, 41, 42, 43, 44, 7].getD i 0) (LR [LV (vO (y) q), LV (.string (BA y.strV)), LV (vO (x) p), LV (.string (BA x.strV)), LV (.agg #[.string (BA y.strV), .string (BA x.strV)]), LSx]) (LR_mono (l := [LV (vO (y) q), LV (.string (BA y.strV)), LV (vO (x) p), LV (.string (BA x.strV)), LV (.agg #[.string (BA y.strV), .string (BA x.strV)]), LSx]) ⟨mLV _, mLV _, mLV _, mLV _, mLV _, mLSx, trivial⟩) (by
  intro i j hi hj h
  exact inj_getD [40, 41, 42, 43, 44, 7] (by decide) i j hi hj h) (by
  intro i hi
  exact lt_getD 87 [40, 41, 42, 43, 44, 7] (by decide) i hi) ?step ?done
 case step =>
  intro i hi a w9 v lo hi' hoth hb hw
  have sl5 : a.tmps[5]? = some (.pointer (some ⟨w.heap.size + 1, 0, none⟩)) := (hoth 5 (fun j hj => by
   have := ne_getD 5 [40, 41, 42, 43, 44, 7] (by decide) j hj
   exact this)).trans rfl
  have sl4 : a.tmps[4]? = some (.pointer (some ⟨w.heap.size, 0, none⟩)) := (hoth 4 (fun j hj => by
   have := ne_getD 4 [40, 41, 42, 43, 44, 7] (by decide) j hj
   exact this)).trans rfl
  match i, hi with
  | 0, _ =>
   exact gw_box rfl (wanted_plain rfl) (.tmp 5) rfl (eval_of sl5) (B1.out.keep hb) ⟨_, rfl, Below.refl _ _, rfl⟩
  | 1, _ =>
   obtain ⟨s0, r0, _⟩ := hw 0 (by omega) (by kernel_rfl)
   have e0 : v 0 = vO (y) q := r0
   rw [e0] at s0
   refine gw_t rfl (wanted_plain rfl) 68 40 _ _ rfl (fun v w => by go_simp) s0 ?_
   with_reducible refine (CT.out y w9 _).mono ?_
   rintro e w3 ⟨rfl, hb3⟩
   exact ⟨_, rfl, _, rfl, hb3, rfl⟩
  | 2, _ =>
   exact gw_box rfl (wanted_plain rfl) (.tmp 4) rfl (eval_of sl4) (B0.out.keep hb) ⟨_, rfl, Below.refl _ _, rfl⟩
  | 3, _ =>
   obtain ⟨s0, r0, _⟩ := hw 2 (by omega) (by kernel_rfl)
   have e0 : v 2 = vO (x) p := r0
   rw [e0] at s0
   refine gw_t rfl (wanted_plain rfl) 68 42 _ _ rfl (fun v w => by go_simp) s0 ?_
   with_reducible refine (CT.out x w9 _).mono ?_
   rintro e w3 ⟨rfl, hb3⟩
   exact ⟨_, rfl, _, rfl, hb3, rfl⟩
  | 4, _ =>
   obtain ⟨s0, r0, _⟩ := hw 1 (by omega) (by kernel_rfl)
   have e0 : v 1 = .string (BA y.strV) := r0
   rw [e0] at s0
   obtain ⟨s1, r1, _⟩ := hw 3 (by omega) (by kernel_rfl)
   have e1 : v 3 = .string (BA x.strV) := r1
   rw [e1] at s1
   exact gw_bld rfl (wanted_plain rfl) 41 43 _ _ rfl s0 s1 ⟨_, rfl, Below.refl _ _, rfl⟩
  | 5, _ =>
   exact gw_alS rfl (wanted_plain rfl) rfl ⟨_, rfl, Below.alloc (Below.refl _ _) (Nat.le_refl _) _, rfl, heap_alloc_new _ _, by simp⟩
 case done =>
  intro a w9 v lo hi' hdef hsz hoth hb hj hap
  obtain ⟨_, hv4, _, _⟩ := hj 4 (by omega)
  obtain ⟨_, ⟨hv5, S0, hlt5⟩, hlo5, hhi5⟩ := hj 5 (by omega)
  have ha := eq_puts hdef hsz hoth (fun i hi => (hj i hi).1)
  subst ha
  clear hj hoth hdef hsz hap
  change v 4 = _ at hv4
  simp only [puts, List.getD_cons_zero, List.getD_cons_succ, hv4, hv5]
  generalize v 0 = v0
  generalize v 1 = v1
  generalize v 2 = v2
  generalize v 3 = v3
  clear hv4 hv5
  simp only [Act.put, List.setIfInBounds_toArray, List.set_cons_zero, List.set_cons_succ]
  show wpList _ _ _ [_] _ _
  clear CT
  have S1 := qh9 S0
  clear S0
  generalize lo 5 = g5 at *
  generalize BA y.strV = s1 at *
  generalize BA x.strV = s2 at *
  go_upto_region 14 with ((with_reducible refine Sy.SB.store (.tmp 7) (.tmp 44) ?_ ?_ g5 (.string s1) (.string s2) (.string ⟨#[]⟩) (.string ⟨#[]⟩) ?_ ?_ S1.out ?_ ?_ ?_); rfl; rfl; rfl; rfl; rfl; rfl)
  have hX := below_setRowO hb hlo5 #[.string s1, .string s2]
  have HS := qh9 (Sy.SB.set S1.out (.string s1) (.string s2))
  generalize World.setRow w9 g5 #[.string s1, .string s2] = X at hX HS ⊢
  clear hb S1
  have hb := hX
  clear hX
  replace B0 := qh9 (B0.out.keep hb)
  replace K0 := qh9 (K0.out.below hb)
  replace B1 := qh9 (B1.out.keep hb)
  replace K1 := qh9 (K1.out.below hb)
  replace R0 := qh9 (R0.out.keep hb)
  replace HW := qc9 HW hb
  clear hb
  obtain ⟨m0, m1, m2, m3, m4, m5, m6⟩ := Bx.c (BxK B0.out)
  clear m1 m2 m3 m4 m5 m6
  generalize x.kd = k at m0 h1
  go_wp2_with (first | ((with_reducible refine loadB (.tmp 4) ?_ ?_ ?_ B0.out ?_); rfl; rfl; rfl) | ((with_reducible refine loadB (.tmp 5) ?_ ?_ ?_ B1.out ?_); rfl; rfl; rfl) | ((with_reducible refine loadG (.tmp 4) ?_ ?_ ?_ B0.out ?_); rfl; rfl; rfl) | ((with_reducible refine loadG (.tmp 5) ?_ ?_ ?_ B1.out ?_); rfl; rfl; rfl))
  with_reducible refine (nilRH _).mono ?_
  rintro e w1 ⟨pr, rfl, kr, hb⟩
  replace B0 := qh9 (B0.out.keep hb)
  replace K0 := qh9 (K0.out.below hb)
  replace B1 := qh9 (B1.out.keep hb)
  replace K1 := qh9 (K1.out.below hb)
  replace R0 := qh9 (R0.out.keep hb)
  replace HW := qc9 HW hb
  clear hb
  replace kr := qh9 kr
  go_wp2_with (first | ((with_reducible refine storeB (w1 := w1) (g := w.heap.size + 1 + 1) (b := .nil) (p := pr) (.tmp 6) (.tmp 58) ?_ ?_ ?_ ?_ kr.out R0.out ?_); rfl; rfl; rfl; rfl) | ((with_reducible refine loadB (.tmp 4) ?_ ?_ ?_ B0.out ?_); rfl; rfl; rfl) | ((with_reducible refine loadB (.tmp 5) ?_ ?_ ?_ B1.out ?_); rfl; rfl; rfl) | ((with_reducible refine loadG (.tmp 4) ?_ ?_ ?_ B0.out ?_); rfl; rfl; rfl) | ((with_reducible refine loadG (.tmp 5) ?_ ?_ ?_ B1.out ?_); rfl; rfl; rfl))
  exact retHs rfl rfl R0.out rfl kr.out (by omega) HW.out
set_option maxHeartbeats 4000000 in
set_option maxRecDepth 100000 in
theorem twoInternB (x y : Ob) (p q : Value) (w : World) (hx : Hd w x p) (hy : Hd w y q) (h1 : x.kd = 3) (h2 : ¬ y.kd = 3) : Calls Tryz.prog 42 #[.string ⟨#[105, 110, 116, 101, 114, 110]⟩, vO x p, vO y q] w (RetH w .nil) := by
 have CT : Hid (∀ (z : Ob) W q, Calls Tryz.prog 68 #[vO z q] W (RetY W (.string (BA z.strV)))) := fun z W q => strR z q W
 obtain ⟨a0, a1, a2, a3, a4, a5, ea⟩ := cells7 (x) p
 obtain ⟨b0, b1, b2, b3, b4, b5, eb⟩ := cells7 (y) q
 have T := Bx3.new w #[a0, a1, a2, a3, a4, a5, p] #[b0, b1, b2, b3, b4, b5, q] #[.int .i64 0, .string ⟨#[]⟩, .string ⟨#[]⟩, .string ⟨#[]⟩, .string ⟨#[]⟩, .string ⟨#[]⟩, .slice none 0 0]
 rw [vO_cells ea, vO_cells eb]
 go_enter Tryz.func42, Tryz.ntmps42
 go_upto_region 1 with fail
 generalize ((w.alloc (.cells #[a0, a1, a2, a3, a4, a5, p] 27)).alloc (.cells #[b0, b1, b2, b3, b4, b5, q] 27)).alloc (.cells #[.int .i64 0, .string ⟨#[]⟩, .string ⟨#[]⟩, .string ⟨#[]⟩, .string ⟨#[]⟩, .string ⟨#[]⟩, .slice none 0 0] 27) = W at T ⊢
 have B0 : Hid (Bx W (w.heap.size) (cellsO (x) p).toArray) := by rw [ea]; exact T.b0
 have K0 := qh9 (hx.below T.bel)
 have B1 : Hid (Bx W (w.heap.size + 1) (cellsO (y) q).toArray) := by rw [eb]; exact T.b1
 have K1 := qh9 (hy.below T.bel)
 have R0 := qh9 T.b2
 have HW := qh9 T.bel
 try rw [← vO_cells ea]
 try rw [← vO_cells eb]
 clear T ea eb hx hy
 go_upto_region 13 with fail
 refine wp_region_grow (l := _) 6 (by kernel_rfl) (by kernel_rfl) (fun i => [40, 41, 42, 43, 44, 7].getD i 0) (LR [LV (vO (y) q), LV (.string (BA y.strV)), LV (vO (x) p), LV (.string (BA x.strV)), LV (.agg #[.string (BA y.strV), .string (BA x.strV)]), LSx]) (LR_mono (l := [LV (vO (y) q), LV (.string (BA y.strV)), LV (vO (x) p), LV (.string (BA x.strV)), LV (.agg #[.string (BA y.strV), .string (BA x.strV)]), LSx]) ⟨mLV _, mLV _, mLV _, mLV _, mLV _, mLSx, trivial⟩) (by
  intro i j hi hj h
  exact inj_getD [40, 41, 42, 43, 44, 7] (by decide) i j hi hj h) (by
  intro i hi
  exact lt_getD 87 [40, 41, 42, 43, 44, 7] (by decide) i hi) ?step ?done
 case step =>
  intro i hi a w9 v lo hi' hoth hb hw
  have sl5 : a.tmps[5]? = some (.pointer (some ⟨w.heap.size + 1, 0, none⟩)) := (hoth 5 (fun j hj => by
   have := ne_getD 5 [40, 41, 42, 43, 44, 7] (by decide) j hj
   exact this)).trans rfl
  have sl4 : a.tmps[4]? = some (.pointer (some ⟨w.heap.size, 0, none⟩)) := (hoth 4 (fun j hj => by
   have := ne_getD 4 [40, 41, 42, 43, 44, 7] (by decide) j hj
   exact this)).trans rfl
  match i, hi with
  | 0, _ =>
   exact gw_box rfl (wanted_plain rfl) (.tmp 5) rfl (eval_of sl5) (B1.out.keep hb) ⟨_, rfl, Below.refl _ _, rfl⟩
  | 1, _ =>
   obtain ⟨s0, r0, _⟩ := hw 0 (by omega) (by kernel_rfl)
   have e0 : v 0 = vO (y) q := r0
   rw [e0] at s0
   refine gw_t rfl (wanted_plain rfl) 68 40 _ _ rfl (fun v w => by go_simp) s0 ?_
   with_reducible refine (CT.out y w9 _).mono ?_
   rintro e w3 ⟨rfl, hb3⟩
   exact ⟨_, rfl, _, rfl, hb3, rfl⟩
  | 2, _ =>
   exact gw_box rfl (wanted_plain rfl) (.tmp 4) rfl (eval_of sl4) (B0.out.keep hb) ⟨_, rfl, Below.refl _ _, rfl⟩
  | 3, _ =>
   obtain ⟨s0, r0, _⟩ := hw 2 (by omega) (by kernel_rfl)
   have e0 : v 2 = vO (x) p := r0
   rw [e0] at s0
   refine gw_t rfl (wanted_plain rfl) 68 42 _ _ rfl (fun v w => by go_simp) s0 ?_
   with_reducible refine (CT.out x w9 _).mono ?_
   rintro e w3 ⟨rfl, hb3⟩
   exact ⟨_, rfl, _, rfl, hb3, rfl⟩
  | 4, _ =>
   obtain ⟨s0, r0, _⟩ := hw 1 (by omega) (by kernel_rfl)
   have e0 : v 1 = .string (BA y.strV) := r0
   rw [e0] at s0
   obtain ⟨s1, r1, _⟩ := hw 3 (by omega) (by kernel_rfl)
   have e1 : v 3 = .string (BA x.strV) := r1
   rw [e1] at s1
   exact gw_bld rfl (wanted_plain rfl) 41 43 _ _ rfl s0 s1 ⟨_, rfl, Below.refl _ _, rfl⟩
  | 5, _ =>
   exact gw_alS rfl (wanted_plain rfl) rfl ⟨_, rfl, Below.alloc (Below.refl _ _) (Nat.le_refl _) _, rfl, heap_alloc_new _ _, by simp⟩
 case done =>
  intro a w9 v lo hi' hdef hsz hoth hb hj hap
  obtain ⟨_, hv4, _, _⟩ := hj 4 (by omega)
  obtain ⟨_, ⟨hv5, S0, hlt5⟩, hlo5, hhi5⟩ := hj 5 (by omega)
  have ha := eq_puts hdef hsz hoth (fun i hi => (hj i hi).1)
  subst ha
  clear hj hoth hdef hsz hap
  change v 4 = _ at hv4
  simp only [puts, List.getD_cons_zero, List.getD_cons_succ, hv4, hv5]
  generalize v 0 = v0
  generalize v 1 = v1
  generalize v 2 = v2
  generalize v 3 = v3
  clear hv4 hv5
  simp only [Act.put, List.setIfInBounds_toArray, List.set_cons_zero, List.set_cons_succ]
  show wpList _ _ _ [_] _ _
  clear CT
  have S1 := qh9 S0
  clear S0
  generalize lo 5 = g5 at *
  generalize BA y.strV = s1 at *
  generalize BA x.strV = s2 at *
  go_upto_region 14 with ((with_reducible refine Sy.SB.store (.tmp 7) (.tmp 44) ?_ ?_ g5 (.string s1) (.string s2) (.string ⟨#[]⟩) (.string ⟨#[]⟩) ?_ ?_ S1.out ?_ ?_ ?_); rfl; rfl; rfl; rfl; rfl; rfl)
  have hX := below_setRowO hb hlo5 #[.string s1, .string s2]
  have HS := qh9 (Sy.SB.set S1.out (.string s1) (.string s2))
  generalize World.setRow w9 g5 #[.string s1, .string s2] = X at hX HS ⊢
  clear hb S1
  have hb := hX
  clear hX
  replace B0 := qh9 (B0.out.keep hb)
  replace K0 := qh9 (K0.out.below hb)
  replace B1 := qh9 (B1.out.keep hb)
  replace K1 := qh9 (K1.out.below hb)
  replace R0 := qh9 (R0.out.keep hb)
  replace HW := qc9 HW hb
  clear hb
  obtain ⟨m0, m1, m2, m3, m4, m5, m6⟩ := Bx.c (BxK B0.out)
  clear m1 m2 m3 m4 m5 m6
  rw [h1] at m0
  obtain ⟨n0, n1, n2, n3, n4, n5, n6⟩ := Bx.c (BxK B1.out)
  clear n1 n2 n3 n4 n5 n6
  generalize y.kd = k2 at n0 h2
  go_wp2_with (first | ((with_reducible refine loadB (.tmp 4) ?_ ?_ ?_ B0.out ?_); rfl; rfl; rfl) | ((with_reducible refine loadB (.tmp 5) ?_ ?_ ?_ B1.out ?_); rfl; rfl; rfl) | ((with_reducible refine loadG (.tmp 4) ?_ ?_ ?_ B0.out ?_); rfl; rfl; rfl) | ((with_reducible refine loadG (.tmp 5) ?_ ?_ ?_ B1.out ?_); rfl; rfl; rfl))
  with_reducible refine (nilRH _).mono ?_
  rintro e w1 ⟨pr, rfl, kr, hb⟩
  replace B0 := qh9 (B0.out.keep hb)
  replace K0 := qh9 (K0.out.below hb)
  replace B1 := qh9 (B1.out.keep hb)
  replace K1 := qh9 (K1.out.below hb)
  replace R0 := qh9 (R0.out.keep hb)
  replace HW := qc9 HW hb
  clear hb
  replace kr := qh9 kr
  go_wp2_with (first | ((with_reducible refine storeB (w1 := w1) (g := w.heap.size + 1 + 1) (b := .nil) (p := pr) (.tmp 6) (.tmp 58) ?_ ?_ ?_ ?_ kr.out R0.out ?_); rfl; rfl; rfl; rfl) | ((with_reducible refine loadB (.tmp 4) ?_ ?_ ?_ B0.out ?_); rfl; rfl; rfl) | ((with_reducible refine loadB (.tmp 5) ?_ ?_ ?_ B1.out ?_); rfl; rfl; rfl) | ((with_reducible refine loadG (.tmp 4) ?_ ?_ ?_ B0.out ?_); rfl; rfl; rfl) | ((with_reducible refine loadG (.tmp 5) ?_ ?_ ?_ B1.out ?_); rfl; rfl; rfl))
  exact retHs rfl rfl R0.out rfl kr.out (by omega) HW.out
set_option maxHeartbeats 4000000 in
set_option maxRecDepth 100000 in
theorem twoInternF (x y : Ob) (p q : Value) (w : World) (hx : Hd w x p) (hy : Hd w y q) (h1 : x.kd = 3) (h2 : y.kd = 3) (hok : Hid (Sy.symOk (BA y.strV) (BA x.strV) = false)) : Calls Tryz.prog 42 #[.string ⟨#[105, 110, 116, 101, 114, 110]⟩, vO x p, vO y q] w (RetH w .nil) := by
 have CT : Hid (∀ (z : Ob) W q, Calls Tryz.prog 68 #[vO z q] W (RetY W (.string (BA z.strV)))) := fun z W q => strR z q W
 have CV : Hid (∀ X, Calls Tryz.prog 15 #[.agg #[.string (BA y.strV), .string (BA x.strV)]] X (RetY X (.bool false))) := fun X => by
  have h3 := Sy.validSR (BA y.strV) (BA x.strV) X
  rw [hok.out] at h3
  exact h3
 clear hok
 obtain ⟨a0, a1, a2, a3, a4, a5, ea⟩ := cells7 (x) p
 obtain ⟨b0, b1, b2, b3, b4, b5, eb⟩ := cells7 (y) q
 have T := Bx3.new w #[a0, a1, a2, a3, a4, a5, p] #[b0, b1, b2, b3, b4, b5, q] #[.int .i64 0, .string ⟨#[]⟩, .string ⟨#[]⟩, .string ⟨#[]⟩, .string ⟨#[]⟩, .string ⟨#[]⟩, .slice none 0 0]
 rw [vO_cells ea, vO_cells eb]
 go_enter Tryz.func42, Tryz.ntmps42
 go_upto_region 1 with fail
 generalize ((w.alloc (.cells #[a0, a1, a2, a3, a4, a5, p] 27)).alloc (.cells #[b0, b1, b2, b3, b4, b5, q] 27)).alloc (.cells #[.int .i64 0, .string ⟨#[]⟩, .string ⟨#[]⟩, .string ⟨#[]⟩, .string ⟨#[]⟩, .string ⟨#[]⟩, .slice none 0 0] 27) = W at T ⊢
 have B0 : Hid (Bx W (w.heap.size) (cellsO (x) p).toArray) := by rw [ea]; exact T.b0
 have K0 := qh9 (hx.below T.bel)
 have B1 : Hid (Bx W (w.heap.size + 1) (cellsO (y) q).toArray) := by rw [eb]; exact T.b1
 have K1 := qh9 (hy.below T.bel)
 have R0 := qh9 T.b2
 have HW := qh9 T.bel
 try rw [← vO_cells ea]
 try rw [← vO_cells eb]
 clear T ea eb hx hy
 go_upto_region 13 with fail
 refine wp_region_grow (l := _) 6 (by kernel_rfl) (by kernel_rfl) (fun i => [40, 41, 42, 43, 44, 7].getD i 0) (LR [LV (vO (y) q), LV (.string (BA y.strV)), LV (vO (x) p), LV (.string (BA x.strV)), LV (.agg #[.string (BA y.strV), .string (BA x.strV)]), LSx]) (LR_mono (l := [LV (vO (y) q), LV (.string (BA y.strV)), LV (vO (x) p), LV (.string (BA x.strV)), LV (.agg #[.string (BA y.strV), .string (BA x.strV)]), LSx]) ⟨mLV _, mLV _, mLV _, mLV _, mLV _, mLSx, trivial⟩) (by
  intro i j hi hj h
  exact inj_getD [40, 41, 42, 43, 44, 7] (by decide) i j hi hj h) (by
  intro i hi
  exact lt_getD 87 [40, 41, 42, 43, 44, 7] (by decide) i hi) ?step ?done
 case step =>
  intro i hi a w9 v lo hi' hoth hb hw
  have sl5 : a.tmps[5]? = some (.pointer (some ⟨w.heap.size + 1, 0, none⟩)) := (hoth 5 (fun j hj => by
   have := ne_getD 5 [40, 41, 42, 43, 44, 7] (by decide) j hj
   exact this)).trans rfl
  have sl4 : a.tmps[4]? = some (.pointer (some ⟨w.heap.size, 0, none⟩)) := (hoth 4 (fun j hj => by
   have := ne_getD 4 [40, 41, 42, 43, 44, 7] (by decide) j hj
   exact this)).trans rfl
  match i, hi with
  | 0, _ =>
   exact gw_box rfl (wanted_plain rfl) (.tmp 5) rfl (eval_of sl5) (B1.out.keep hb) ⟨_, rfl, Below.refl _ _, rfl⟩
  | 1, _ =>
   obtain ⟨s0, r0, _⟩ := hw 0 (by omega) (by kernel_rfl)
   have e0 : v 0 = vO (y) q := r0
   rw [e0] at s0
   refine gw_t rfl (wanted_plain rfl) 68 40 _ _ rfl (fun v w => by go_simp) s0 ?_
   with_reducible refine (CT.out y w9 _).mono ?_
   rintro e w3 ⟨rfl, hb3⟩
   exact ⟨_, rfl, _, rfl, hb3, rfl⟩
  | 2, _ =>
   exact gw_box rfl (wanted_plain rfl) (.tmp 4) rfl (eval_of sl4) (B0.out.keep hb) ⟨_, rfl, Below.refl _ _, rfl⟩
  | 3, _ =>
   obtain ⟨s0, r0, _⟩ := hw 2 (by omega) (by kernel_rfl)
   have e0 : v 2 = vO (x) p := r0
   rw [e0] at s0
   refine gw_t rfl (wanted_plain rfl) 68 42 _ _ rfl (fun v w => by go_simp) s0 ?_
   with_reducible refine (CT.out x w9 _).mono ?_
   rintro e w3 ⟨rfl, hb3⟩
   exact ⟨_, rfl, _, rfl, hb3, rfl⟩
  | 4, _ =>
   obtain ⟨s0, r0, _⟩ := hw 1 (by omega) (by kernel_rfl)
   have e0 : v 1 = .string (BA y.strV) := r0
   rw [e0] at s0
   obtain ⟨s1, r1, _⟩ := hw 3 (by omega) (by kernel_rfl)
   have e1 : v 3 = .string (BA x.strV) := r1
   rw [e1] at s1
   exact gw_bld rfl (wanted_plain rfl) 41 43 _ _ rfl s0 s1 ⟨_, rfl, Below.refl _ _, rfl⟩
  | 5, _ =>
   exact gw_alS rfl (wanted_plain rfl) rfl ⟨_, rfl, Below.alloc (Below.refl _ _) (Nat.le_refl _) _, rfl, heap_alloc_new _ _, by simp⟩
 case done =>
  intro a w9 v lo hi' hdef hsz hoth hb hj hap
  obtain ⟨_, hv4, _, _⟩ := hj 4 (by omega)
  obtain ⟨_, ⟨hv5, S0, hlt5⟩, hlo5, hhi5⟩ := hj 5 (by omega)
  have ha := eq_puts hdef hsz hoth (fun i hi => (hj i hi).1)
  subst ha
  clear hj hoth hdef hsz hap
  change v 4 = _ at hv4
  simp only [puts, List.getD_cons_zero, List.getD_cons_succ, hv4, hv5]
  generalize v 0 = v0
  generalize v 1 = v1
  generalize v 2 = v2
  generalize v 3 = v3
  clear hv4 hv5
  simp only [Act.put, List.setIfInBounds_toArray, List.set_cons_zero, List.set_cons_succ]
  show wpList _ _ _ [_] _ _
  clear CT
  have S1 := qh9 S0
  clear S0
  generalize lo 5 = g5 at *
  generalize BA y.strV = s1 at *
  generalize BA x.strV = s2 at *
  go_upto_region 14 with ((with_reducible refine Sy.SB.store (.tmp 7) (.tmp 44) ?_ ?_ g5 (.string s1) (.string s2) (.string ⟨#[]⟩) (.string ⟨#[]⟩) ?_ ?_ S1.out ?_ ?_ ?_); rfl; rfl; rfl; rfl; rfl; rfl)
  have hX := below_setRowO hb hlo5 #[.string s1, .string s2]
  have HS := qh9 (Sy.SB.set S1.out (.string s1) (.string s2))
  generalize World.setRow w9 g5 #[.string s1, .string s2] = X at hX HS ⊢
  clear hb S1
  have hb := hX
  clear hX
  replace B0 := qh9 (B0.out.keep hb)
  replace K0 := qh9 (K0.out.below hb)
  replace B1 := qh9 (B1.out.keep hb)
  replace K1 := qh9 (K1.out.below hb)
  replace R0 := qh9 (R0.out.keep hb)
  replace HW := qc9 HW hb
  clear hb
  obtain ⟨m0, m1, m2, m3, m4, m5, m6⟩ := Bx.c (BxK B0.out)
  clear m1 m2 m3 m4 m5 m6
  rw [h1] at m0
  obtain ⟨n0, n1, n2, n3, n4, n5, n6⟩ := Bx.c (BxK B1.out)
  clear n1 n2 n3 n4 n5 n6
  rw [h2] at n0
  have l0 := HS.out.c0
  have l1 := HS.out.c1
  go_wp2_with (first | ((with_reducible refine loadB (.tmp 4) ?_ ?_ ?_ B0.out ?_); rfl; rfl; rfl) | ((with_reducible refine loadB (.tmp 5) ?_ ?_ ?_ B1.out ?_); rfl; rfl; rfl) | ((with_reducible refine loadG (.tmp 4) ?_ ?_ ?_ B0.out ?_); rfl; rfl; rfl) | ((with_reducible refine loadG (.tmp 5) ?_ ?_ ?_ B1.out ?_); rfl; rfl; rfl))
  with_reducible refine (CV.out _).mono ?_
  rintro e w1 ⟨rfl, hb⟩
  replace B0 := qh9 (B0.out.keep hb)
  replace K0 := qh9 (K0.out.below hb)
  replace B1 := qh9 (B1.out.keep hb)
  replace K1 := qh9 (K1.out.below hb)
  replace R0 := qh9 (R0.out.keep hb)
  replace HW := qc9 HW hb
  replace HS := qh9 (HS.out.keep hb)
  clear hb CV l0 l1 m0 n0
  go_wp2_with (first | ((with_reducible refine loadB (.tmp 4) ?_ ?_ ?_ B0.out ?_); rfl; rfl; rfl) | ((with_reducible refine loadB (.tmp 5) ?_ ?_ ?_ B1.out ?_); rfl; rfl; rfl) | ((with_reducible refine loadG (.tmp 4) ?_ ?_ ?_ B0.out ?_); rfl; rfl; rfl) | ((with_reducible refine loadG (.tmp 5) ?_ ?_ ?_ B1.out ?_); rfl; rfl; rfl))
  with_reducible refine (nilRH _).mono ?_
  rintro e w2 ⟨pr, rfl, kr, hb⟩
  replace B0 := qh9 (B0.out.keep hb)
  replace K0 := qh9 (K0.out.below hb)
  replace B1 := qh9 (B1.out.keep hb)
  replace K1 := qh9 (K1.out.below hb)
  replace R0 := qh9 (R0.out.keep hb)
  replace HW := qc9 HW hb
  clear hb
  replace kr := qh9 kr
  go_wp2_with (first | ((with_reducible refine storeB (w1 := w2) (g := w.heap.size + 1 + 1) (b := .nil) (p := pr) (.tmp 6) (.tmp 58) ?_ ?_ ?_ ?_ kr.out R0.out ?_); rfl; rfl; rfl; rfl) | ((with_reducible refine loadB (.tmp 4) ?_ ?_ ?_ B0.out ?_); rfl; rfl; rfl) | ((with_reducible refine loadB (.tmp 5) ?_ ?_ ?_ B1.out ?_); rfl; rfl; rfl) | ((with_reducible refine loadG (.tmp 4) ?_ ?_ ?_ B0.out ?_); rfl; rfl; rfl) | ((with_reducible refine loadG (.tmp 5) ?_ ?_ ?_ B1.out ?_); rfl; rfl; rfl))
  exact retHs rfl rfl R0.out rfl kr.out (by omega) HW.out
set_option maxHeartbeats 4000000 in
set_option maxRecDepth 100000 in
theorem twoInternT (x y : Ob) (p q : Value) (w : World) (hx : Hd w x p) (hy : Hd w y q) (h1 : x.kd = 3) (h2 : y.kd = 3) (hok : Hid (Sy.symOk (BA y.strV) (BA x.strV) = true)) : Calls Tryz.prog 42 #[.string ⟨#[105, 110, 116, 101, 114, 110]⟩, vO x p, vO y q] w (RetH w (.sym (LA (BA y.strV)) (LA (BA x.strV)))) := by
 have CT : Hid (∀ (z : Ob) W q, Calls Tryz.prog 68 #[vO z q] W (RetY W (.string (BA z.strV)))) := fun z W q => strR z q W
 have CV : Hid (∀ X, Calls Tryz.prog 15 #[.agg #[.string (BA y.strV), .string (BA x.strV)]] X (RetY X (.bool true))) := fun X => by
  have h3 := Sy.validSR (BA y.strV) (BA x.strV) X
  rw [hok.out] at h3
  exact h3
 clear hok
 obtain ⟨a0, a1, a2, a3, a4, a5, ea⟩ := cells7 (x) p
 obtain ⟨b0, b1, b2, b3, b4, b5, eb⟩ := cells7 (y) q
 have T := Bx3.new w #[a0, a1, a2, a3, a4, a5, p] #[b0, b1, b2, b3, b4, b5, q] #[.int .i64 0, .string ⟨#[]⟩, .string ⟨#[]⟩, .string ⟨#[]⟩, .string ⟨#[]⟩, .string ⟨#[]⟩, .slice none 0 0]
 rw [vO_cells ea, vO_cells eb]
 go_enter Tryz.func42, Tryz.ntmps42
 go_upto_region 1 with fail
 generalize ((w.alloc (.cells #[a0, a1, a2, a3, a4, a5, p] 27)).alloc (.cells #[b0, b1, b2, b3, b4, b5, q] 27)).alloc (.cells #[.int .i64 0, .string ⟨#[]⟩, .string ⟨#[]⟩, .string ⟨#[]⟩, .string ⟨#[]⟩, .string ⟨#[]⟩, .slice none 0 0] 27) = W at T ⊢
 have B0 : Hid (Bx W (w.heap.size) (cellsO (x) p).toArray) := by rw [ea]; exact T.b0
 have K0 := qh9 (hx.below T.bel)
 have B1 : Hid (Bx W (w.heap.size + 1) (cellsO (y) q).toArray) := by rw [eb]; exact T.b1
 have K1 := qh9 (hy.below T.bel)
 have R0 := qh9 T.b2
 have HW := qh9 T.bel
 try rw [← vO_cells ea]
 try rw [← vO_cells eb]
 clear T ea eb hx hy
 go_upto_region 13 with fail
 refine wp_region_grow (l := _) 6 (by kernel_rfl) (by kernel_rfl) (fun i => [40, 41, 42, 43, 44, 7].getD i 0) (LR [LV (vO (y) q), LV (.string (BA y.strV)), LV (vO (x) p), LV (.string (BA x.strV)), LV (.agg #[.string (BA y.strV), .string (BA x.strV)]), LSx]) (LR_mono (l := [LV (vO (y) q), LV (.string (BA y.strV)), LV (vO (x) p), LV (.string (BA x.strV)), LV (.agg #[.string (BA y.strV), .string (BA x.strV)]), LSx]) ⟨mLV _, mLV _, mLV _, mLV _, mLV _, mLSx, trivial⟩) (by
  intro i j hi hj h
  exact inj_getD [40, 41, 42, 43, 44, 7] (by decide) i j hi hj h) (by
  intro i hi
  exact lt_getD 87 [40, 41, 42, 43, 44, 7] (by decide) i hi) ?step ?done
 case step =>
  intro i hi a w9 v lo hi' hoth hb hw
  have sl5 : a.tmps[5]? = some (.pointer (some ⟨w.heap.size + 1, 0, none⟩)) := (hoth 5 (fun j hj => by
   have := ne_getD 5 [40, 41, 42, 43, 44, 7] (by decide) j hj
   exact this)).trans rfl
  have sl4 : a.tmps[4]? = some (.pointer (some ⟨w.heap.size, 0, none⟩)) := (hoth 4 (fun j hj => by
   have := ne_getD 4 [40, 41, 42, 43, 44, 7] (by decide) j hj
   exact this)).trans rfl
  match i, hi with
  | 0, _ =>
   exact gw_box rfl (wanted_plain rfl) (.tmp 5) rfl (eval_of sl5) (B1.out.keep hb) ⟨_, rfl, Below.refl _ _, rfl⟩
  | 1, _ =>
   obtain ⟨s0, r0, _⟩ := hw 0 (by omega) (by kernel_rfl)
   have e0 : v 0 = vO (y) q := r0
   rw [e0] at s0
   refine gw_t rfl (wanted_plain rfl) 68 40 _ _ rfl (fun v w => by go_simp) s0 ?_
   with_reducible refine (CT.out y w9 _).mono ?_
   rintro e w3 ⟨rfl, hb3⟩
   exact ⟨_, rfl, _, rfl, hb3, rfl⟩
  | 2, _ =>
   exact gw_box rfl (wanted_plain rfl) (.tmp 4) rfl (eval_of sl4) (B0.out.keep hb) ⟨_, rfl, Below.refl _ _, rfl⟩
  | 3, _ =>
   obtain ⟨s0, r0, _⟩ := hw 2 (by omega) (by kernel_rfl)
   have e0 : v 2 = vO (x) p := r0
   rw [e0] at s0
   refine gw_t rfl (wanted_plain rfl) 68 42 _ _ rfl (fun v w => by go_simp) s0 ?_
   with_reducible refine (CT.out x w9 _).mono ?_
   rintro e w3 ⟨rfl, hb3⟩
   exact ⟨_, rfl, _, rfl, hb3, rfl⟩
  | 4, _ =>
   obtain ⟨s0, r0, _⟩ := hw 1 (by omega) (by kernel_rfl)
   have e0 : v 1 = .string (BA y.strV) := r0
   rw [e0] at s0
   obtain ⟨s1, r1, _⟩ := hw 3 (by omega) (by kernel_rfl)
   have e1 : v 3 = .string (BA x.strV) := r1
   rw [e1] at s1
   exact gw_bld rfl (wanted_plain rfl) 41 43 _ _ rfl s0 s1 ⟨_, rfl, Below.refl _ _, rfl⟩
  | 5, _ =>
   exact gw_alS rfl (wanted_plain rfl) rfl ⟨_, rfl, Below.alloc (Below.refl _ _) (Nat.le_refl _) _, rfl, heap_alloc_new _ _, by simp⟩
 case done =>
  intro a w9 v lo hi' hdef hsz hoth hb hj hap
  obtain ⟨_, hv4, _, _⟩ := hj 4 (by omega)
  obtain ⟨_, ⟨hv5, S0, hlt5⟩, hlo5, hhi5⟩ := hj 5 (by omega)
  have ha := eq_puts hdef hsz hoth (fun i hi => (hj i hi).1)
  subst ha
  clear hj hoth hdef hsz hap
  change v 4 = _ at hv4
  simp only [puts, List.getD_cons_zero, List.getD_cons_succ, hv4, hv5]
  generalize v 0 = v0
  generalize v 1 = v1
  generalize v 2 = v2
  generalize v 3 = v3
  clear hv4 hv5
  simp only [Act.put, List.setIfInBounds_toArray, List.set_cons_zero, List.set_cons_succ]
  show wpList _ _ _ [_] _ _
  clear CT
  have S1 := qh9 S0
  clear S0
  generalize lo 5 = g5 at *
  generalize BA y.strV = s1 at *
  generalize BA x.strV = s2 at *
  go_upto_region 14 with ((with_reducible refine Sy.SB.store (.tmp 7) (.tmp 44) ?_ ?_ g5 (.string s1) (.string s2) (.string ⟨#[]⟩) (.string ⟨#[]⟩) ?_ ?_ S1.out ?_ ?_ ?_); rfl; rfl; rfl; rfl; rfl; rfl)
  have hX := below_setRowO hb hlo5 #[.string s1, .string s2]
  have HS := qh9 (Sy.SB.set S1.out (.string s1) (.string s2))
  generalize World.setRow w9 g5 #[.string s1, .string s2] = X at hX HS ⊢
  clear hb S1
  have hb := hX
  clear hX
  replace B0 := qh9 (B0.out.keep hb)
  replace K0 := qh9 (K0.out.below hb)
  replace B1 := qh9 (B1.out.keep hb)
  replace K1 := qh9 (K1.out.below hb)
  replace R0 := qh9 (R0.out.keep hb)
  replace HW := qc9 HW hb
  clear hb
  obtain ⟨m0, m1, m2, m3, m4, m5, m6⟩ := Bx.c (BxK B0.out)
  clear m1 m2 m3 m4 m5 m6
  rw [h1] at m0
  obtain ⟨n0, n1, n2, n3, n4, n5, n6⟩ := Bx.c (BxK B1.out)
  clear n1 n2 n3 n4 n5 n6
  rw [h2] at n0
  have l0 := HS.out.c0
  have l1 := HS.out.c1
  go_wp2_with (first | ((with_reducible refine loadB (.tmp 4) ?_ ?_ ?_ B0.out ?_); rfl; rfl; rfl) | ((with_reducible refine loadB (.tmp 5) ?_ ?_ ?_ B1.out ?_); rfl; rfl; rfl) | ((with_reducible refine loadG (.tmp 4) ?_ ?_ ?_ B0.out ?_); rfl; rfl; rfl) | ((with_reducible refine loadG (.tmp 5) ?_ ?_ ?_ B1.out ?_); rfl; rfl; rfl))
  with_reducible refine (CV.out _).mono ?_
  rintro e w1 ⟨rfl, hb⟩
  replace B0 := qh9 (B0.out.keep hb)
  replace K0 := qh9 (K0.out.below hb)
  replace B1 := qh9 (B1.out.keep hb)
  replace K1 := qh9 (K1.out.below hb)
  replace R0 := qh9 (R0.out.keep hb)
  replace HW := qc9 HW hb
  replace HS := qh9 (HS.out.keep hb)
  clear hb CV l0 l1 m0 n0
  have l0 := HS.out.c0
  have l1 := HS.out.c1
  go_wp2_with (first | ((with_reducible refine loadB (.tmp 4) ?_ ?_ ?_ B0.out ?_); rfl; rfl; rfl) | ((with_reducible refine loadB (.tmp 5) ?_ ?_ ?_ B1.out ?_); rfl; rfl; rfl) | ((with_reducible refine loadG (.tmp 4) ?_ ?_ ?_ B0.out ?_); rfl; rfl; rfl) | ((with_reducible refine loadG (.tmp 5) ?_ ?_ ?_ B1.out ?_); rfl; rfl; rfl))
  clear l0 l1 HS
  with_reducible refine (symbolRH _ _ _).mono ?_
  rintro e w2 ⟨pr, rfl, kr, hb⟩
  replace B0 := qh9 (B0.out.keep hb)
  replace K0 := qh9 (K0.out.below hb)
  replace B1 := qh9 (B1.out.keep hb)
  replace K1 := qh9 (K1.out.below hb)
  replace R0 := qh9 (R0.out.keep hb)
  replace HW := qc9 HW hb
  clear hb
  replace kr := qh9 kr
  go_wp2_with (first | ((with_reducible refine storeB (w1 := w2) (g := w.heap.size + 1 + 1) (b := .sym (LA s1) (LA s2)) (p := pr) (.tmp 6) (.tmp 60) ?_ ?_ ?_ ?_ kr.out R0.out ?_); rfl; rfl; rfl; rfl) | ((with_reducible refine loadB (.tmp 4) ?_ ?_ ?_ B0.out ?_); rfl; rfl; rfl) | ((with_reducible refine loadB (.tmp 5) ?_ ?_ ?_ B1.out ?_); rfl; rfl; rfl) | ((with_reducible refine loadG (.tmp 4) ?_ ?_ ?_ B0.out ?_); rfl; rfl; rfl) | ((with_reducible refine loadG (.tmp 5) ?_ ?_ ?_ B1.out ?_); rfl; rfl; rfl))
  exact retHs rfl rfl R0.out rfl kr.out (by omega) HW.out
theorem twoIntern (x y : Ob) (p q : Value) (w : World) (hx : Hd w x p) (hy : Hd w y q) : Calls Tryz.prog 42 #[.string ⟨#[105, 110, 116, 101, 114, 110]⟩, vO x p, vO y q] w (RetH w (internV x y)) := by
 by_cases h1 : x.kd = 3
 · by_cases h2 : y.kd = 3
   · cases x with
     | str n =>
      cases y with
      | str m =>
       have e : internV (.str n) (.str m) = if Sy.symOk (BA m) (BA n) then .sym m n else .nil := rfl
       rw [e]
       cases hok : Sy.symOk (BA m) (BA n) with
       | false => exact twoInternF (.str n) (.str m) p q w hx hy rfl rfl hok
       | true =>
        have h := twoInternT (.str n) (.str m) p q w hx hy rfl rfl hok
        have e2 : (Ob.sym (LA (BA (Ob.str m).strV)) (LA (BA (Ob.str n).strV))) = .sym m n := by show Ob.sym (LA (BA m)) (LA (BA n)) = _; rw [LA_BA, LA_BA]
        rw [e2] at h
        exact h
      | _ => simp [Ob.kd] at h2
     | _ => simp [Ob.kd] at h1
   · have e : internV x y = .nil := by
      cases x <;> cases y <;> first | rfl | exact absurd rfl h2
     rw [e]
     exact twoInternB x y p q w hx hy h1 h2
 · have e : internV x y = .nil := by
    cases x <;> cases y <;> first | rfl | exact absurd rfl h1
   rw [e]
   exact twoInternA x y p q w hx hy h1
set_option maxHeartbeats 4000000 in
set_option maxRecDepth 100000 in
theorem applyR7 (fp fn : ByteArray) (v : Value) (w : World) (CF : Hid (∀ W, Calls Tryz.prog 24 #[.agg #[.string fp, .string fn]] W (RetIB W 0 false))) : Calls Tryz.prog 22 #[.agg #[.string fp, .string fn], v] w (RetE w (none, 7)) := by
 have A0 := ApW.new w fp fn
 go_enter Tryz.func22, Tryz.ntmps22
 go_wp2_with fail
 generalize (w.alloc (.cells #[.string fp, .string fn] 24)).alloc (.cells #[.int .i64 0, .string ⟨#[]⟩, .string ⟨#[]⟩, .string ⟨#[]⟩, .string ⟨#[]⟩, .string ⟨#[]⟩, .slice none 0 0] 27) = W at A0 ⊢
 refine (CF.out W).mono ?_
 rintro e w1 ⟨rfl, hb⟩
 have AX := qh9 (A0.keep hb)
 clear A0 hb CF
 go_wp2_with ((with_reducible refine storeZ (g := w.heap.size + 1) (.tmp 4) (.tmp 16) ?_ ?_ ?_ ?_ AX.out.r ?_); rfl; rfl; rfl; rfl)
 exact retEz rfl rfl rfl AX.out.r (by omega) AX.out.bel
set_option maxHeartbeats 4000000 in
set_option maxRecDepth 100000 in
theorem applyR5 (fp fn : ByteArray) (A : Option Addr) (n c : Nat) (a : Int) (w : World) (CF : Hid (∀ W, Calls Tryz.prog 24 #[.agg #[.string fp, .string fn]] W (RetIB W a true))) (hn2 : ((n : Int) != a) = true) : Calls Tryz.prog 22 #[.agg #[.string fp, .string fn], .slice A n c] w (RetE w (none, 5)) := by
 have A0 := ApW.new w fp fn
 go_enter Tryz.func22, Tryz.ntmps22
 go_wp2_with fail
 generalize (w.alloc (.cells #[.string fp, .string fn] 24)).alloc (.cells #[.int .i64 0, .string ⟨#[]⟩, .string ⟨#[]⟩, .string ⟨#[]⟩, .string ⟨#[]⟩, .string ⟨#[]⟩, .slice none 0 0] 27) = W at A0 ⊢
 refine (CF.out W).mono ?_
 rintro e w1 ⟨rfl, hb⟩
 have AX := qh9 (A0.keep hb)
 clear A0 hb CF
 go_wp2_with ((with_reducible refine storeZ (g := w.heap.size + 1) (.tmp 4) (.tmp 21) ?_ ?_ ?_ ?_ AX.out.r ?_); rfl; rfl; rfl; rfl)
 exact retEz rfl rfl rfl AX.out.r (by omega) AX.out.bel
set_option maxHeartbeats 4000000 in
set_option maxRecDepth 100000 in
theorem applyR1F (fp fn : ByteArray) (x : Ob) (p : Value) (b o c : Nat) (w : World) (res : Ob) (CF : Hid (∀ W, Calls Tryz.prog 24 #[.agg #[.string fp, .string fn]] W (RetIB W 1 true))) (hx : Ad w x b o p) (hc : 1 ≤ c) (ht : Tab w) (CC : Hid (∀ W s, Below w.heap.size w W → Hd W x s → Calls Tryz.prog 41 #[.string fn, vO x s] W (RetH W res))) (CO : Hid (∀ W q, Hd W res q → Tab W → Calls Tryz.prog 11 #[vO res q] W (RetB W false))) : Calls Tryz.prog 22 #[.agg #[.string fp, .string fn], .slice (some ⟨b, o, none⟩) 1 c] w (RetE w (none, 2)) := by
 have HT := qh9 ht
 have HX := qh9 hx
 clear ht hx
 obtain ⟨a0, a1, a2, a3, a4, a5, ea⟩ := cells7 x p
 have CD : Hid (∀ W, Below w.heap.size w W → Calls Tryz.prog 41 #[.string fn, .agg #[a0, a1, a2, a3, a4, a5, p]] W (RetH W res)) := fun W h => by
  rw [← vO_cells ea]; exact CC.out W p h (HX.out.below h).hd
 clear CC
 have A0 := ApW.new w fp fn
 go_enter Tryz.func22, Tryz.ntmps22
 go_wp2_with fail
 generalize (w.alloc (.cells #[.string fp, .string fn] 24)).alloc (.cells #[.int .i64 0, .string ⟨#[]⟩, .string ⟨#[]⟩, .string ⟨#[]⟩, .string ⟨#[]⟩, .string ⟨#[]⟩, .slice none 0 0] 27) = W at A0 ⊢
 refine (CF.out W).mono ?_
 rintro e w1 ⟨rfl, hb⟩
 have AX := qh9 (A0.keep hb)
 have HL := qh9 (show w.heap.size + 2 ≤ w1.heap.size from by have h1 := A0.r.lt; have h2 := hb.size; omega)
 have HL := qh9 (show w.heap.size + 2 ≤ w1.heap.size from by have h1 := A0.r.lt; have h2 := hb.size; omega)
 have HL := qh9 (show w.heap.size + 2 ≤ w1.heap.size from by have h1 := A0.r.lt; have h2 := hb.size; omega)
 have HL := qh9 (show w.heap.size + 2 ≤ w1.heap.size from by have h1 := A0.r.lt; have h2 := hb.size; omega)
 clear A0 hb CF
 have T := Bx1.new w1 #[.int .i64 0, .string ⟨#[]⟩, .string ⟨#[]⟩, .string ⟨#[]⟩, .string ⟨#[]⟩, .string ⟨#[]⟩, .slice none 0 0]
 go_upto_region 12 with fail
 generalize w1.alloc (.cells #[.int .i64 0, .string ⟨#[]⟩, .string ⟨#[]⟩, .string ⟨#[]⟩, .string ⟨#[]⟩, .string ⟨#[]⟩, .slice none 0 0] 27) = W1 at T ⊢
 have hb := T.bel
 replace AX := qh9 (AX.out.keep hb)
 have B0 := qh9 T.b0
 clear T hb
 have sn := AX.out.s.c1
 have hbx := (HX.out.below AX.out.bel).2.1
 rw [ea] at hbx
 have l0 := hbx 0 _ rfl
 have l1 := hbx 1 _ rfl
 have l2 := hbx 2 _ rfl
 have l3 := hbx 3 _ rfl
 have l4 := hbx 4 _ rfl
 have l5 := hbx 5 _ rfl
 have l6 := hbx 6 _ rfl
 rw [Nat.add_zero] at l0
 clear hbx
 go_wp2_with fail
 go_still_tail 5, (by kernel_rfl)
 change wpList _ _ _ _ _ W1.drew
 have hb : Below W1.heap.size W1 W1.drew := (Below.refl _ _).drew
 generalize W1.drew = wd at hb ⊢
 replace AX := qh9 (AX.out.keep hb)
 replace B0 := qh9 (B0.out.keep hb)
 clear hb sn l0 l1 l2 l3 l4 l5 l6
 go_wp2_with fail
 refine (CD.out _ AX.out.bel).mono ?_
 rintro e w2 ⟨pr, rfl, kr, hb⟩
 replace AX := qh9 (AX.out.keep hb)
 replace B0 := qh9 (B0.out.keep hb)
 have KP := qh9 kr
 clear hb kr CD
 go_upto_region 15 with ((with_reducible refine storeB (w1 := w2) (g := w1.heap.size) (b := res) (p := pr) (.tmp 8) (.tmp 40) ?_ ?_ ?_ ?_ KP.out B0.out ?_); rfl; rfl; rfl; rfl)
 have hlr : w.heap.size + 2 ≤ w1.heap.size := HL.out
 have AX2 : ApW w (World.setRow w2 w1.heap.size (cellsO res pr).toArray) fp fn := ⟨below_setRowO AX.out.bel (by omega) _, (setRow_other _ _ _ _ (by omega)).trans AX.out.s, AX.out.r.other (by omega)⟩
 have KP2 := KP.out.box B0.out rfl (cellsO res pr).toArray
 have B1' := Bx.set (y := (cellsO res pr).toArray) B0.out
 generalize World.setRow w2 w1.heap.size (cellsO res pr).toArray = X2 at AX2 KP2 B1' ⊢
 replace AX := qh9 AX2
 replace KP := qh9 KP2
 have B1 := qh9 B1'
 clear AX2 KP2 B1' B0
 go_wp2_with ((with_reducible refine loadB (.tmp 8) ?_ ?_ ?_ B1.out ?_); rfl; rfl; rfl)
 refine (CO.out _ _ KP.out (HT.out.below AX.out.bel)).mono ?_
 rintro e w9 ⟨rfl, hb⟩
 replace AX := qh9 (AX.out.keep hb)
 replace KP := qh9 (KP.out.below hb)
 replace B1 := qh9 (B1.out.keep hb)
 clear hb CO
 go_wp2_with ((with_reducible refine storeZ (g := w.heap.size + 1) (.tmp 4) (.tmp 55) ?_ ?_ ?_ ?_ AX.out.r ?_); rfl; rfl; rfl; rfl)
 exact retEz rfl rfl rfl AX.out.r (by omega) AX.out.bel
set_option maxHeartbeats 4000000 in
set_option maxRecDepth 100000 in
theorem applyR2F (fp fn : ByteArray) (x y : Ob) (p q : Value) (b o c : Nat) (w : World) (res : Ob) (CF : Hid (∀ W, Calls Tryz.prog 24 #[.agg #[.string fp, .string fn]] W (RetIB W 2 true))) (hx : Ad w x b o p) (hy : Ad w y b (o + 7) q) (hc : 2 ≤ c) (ht : Tab w) (CC : Hid (∀ W s t, Below w.heap.size w W → Hd W x s → Hd W y t → Calls Tryz.prog 42 #[.string fn, vO x s, vO y t] W (RetH W res))) (CO : Hid (∀ W q, Hd W res q → Tab W → Calls Tryz.prog 11 #[vO res q] W (RetB W false))) : Calls Tryz.prog 22 #[.agg #[.string fp, .string fn], .slice (some ⟨b, o, none⟩) 2 c] w (RetE w (none, 2)) := by
 have HT := qh9 ht
 have HX := qh9 hx
 have HY := qh9 hy
 clear ht hx hy
 obtain ⟨a0, a1, a2, a3, a4, a5, ea⟩ := cells7 x p
 obtain ⟨b0, b1, b2, b3, b4, b5, eb⟩ := cells7 y q
 have CD : Hid (∀ W, Below w.heap.size w W → Calls Tryz.prog 42 #[.string fn, .agg #[a0, a1, a2, a3, a4, a5, p], .agg #[b0, b1, b2, b3, b4, b5, q]] W (RetH W res)) := fun W h => by
  rw [← vO_cells ea, ← vO_cells eb]; exact CC.out W p q h (HX.out.below h).hd (HY.out.below h).hd
 clear CC
 have A0 := ApW.new w fp fn
 go_enter Tryz.func22, Tryz.ntmps22
 go_wp2_with fail
 generalize (w.alloc (.cells #[.string fp, .string fn] 24)).alloc (.cells #[.int .i64 0, .string ⟨#[]⟩, .string ⟨#[]⟩, .string ⟨#[]⟩, .string ⟨#[]⟩, .string ⟨#[]⟩, .slice none 0 0] 27) = W at A0 ⊢
 refine (CF.out W).mono ?_
 rintro e w1 ⟨rfl, hb⟩
 have AX := qh9 (A0.keep hb)
 have HL := qh9 (show w.heap.size + 2 ≤ w1.heap.size from by have h1 := A0.r.lt; have h2 := hb.size; omega)
 have HL := qh9 (show w.heap.size + 2 ≤ w1.heap.size from by have h1 := A0.r.lt; have h2 := hb.size; omega)
 have HL := qh9 (show w.heap.size + 2 ≤ w1.heap.size from by have h1 := A0.r.lt; have h2 := hb.size; omega)
 clear A0 hb CF
 have T := Bx1.new w1 #[.int .i64 0, .string ⟨#[]⟩, .string ⟨#[]⟩, .string ⟨#[]⟩, .string ⟨#[]⟩, .string ⟨#[]⟩, .slice none 0 0]
 go_upto_region 14 with fail
 generalize w1.alloc (.cells #[.int .i64 0, .string ⟨#[]⟩, .string ⟨#[]⟩, .string ⟨#[]⟩, .string ⟨#[]⟩, .string ⟨#[]⟩, .slice none 0 0] 27) = W1 at T ⊢
 have hb := T.bel
 replace AX := qh9 (AX.out.keep hb)
 have B0 := qh9 T.b0
 clear T hb
 have sn := AX.out.s.c1
 have hbx := (HX.out.below AX.out.bel).2.1
 rw [ea] at hbx
 have l0 := hbx 0 _ rfl
 have l1 := hbx 1 _ rfl
 have l2 := hbx 2 _ rfl
 have l3 := hbx 3 _ rfl
 have l4 := hbx 4 _ rfl
 have l5 := hbx 5 _ rfl
 have l6 := hbx 6 _ rfl
 rw [Nat.add_zero] at l0
 have hby := (HY.out.below AX.out.bel).2.1
 rw [eb] at hby
 have n0 := hby 0 _ rfl
 have n1 := hby 1 _ rfl
 have n2 := hby 2 _ rfl
 have n3 := hby 3 _ rfl
 have n4 := hby 4 _ rfl
 have n5 := hby 5 _ rfl
 have n6 := hby 6 _ rfl
 rw [Nat.add_zero] at n0
 simp only [Nat.add_assoc, Nat.reduceAdd] at n1 n2 n3 n4 n5 n6
 clear hbx hby
 go_wp2_with fail
 go_still_tail 8, (by kernel_rfl)
 change wpList _ _ _ _ _ W1.drew
 have hb : Below W1.heap.size W1 W1.drew := (Below.refl _ _).drew
 generalize W1.drew = wd at hb ⊢
 replace AX := qh9 (AX.out.keep hb)
 replace B0 := qh9 (B0.out.keep hb)
 clear hb sn l0 l1 l2 l3 l4 l5 l6 n0 n1 n2 n3 n4 n5 n6
 go_wp2_with fail
 refine (CD.out _ AX.out.bel).mono ?_
 rintro e w2 ⟨pr, rfl, kr, hb⟩
 replace AX := qh9 (AX.out.keep hb)
 replace B0 := qh9 (B0.out.keep hb)
 have KP := qh9 kr
 clear hb kr CD
 go_upto_region 15 with ((with_reducible refine storeB (w1 := w2) (g := w1.heap.size) (b := res) (p := pr) (.tmp 8) (.tmp 51) ?_ ?_ ?_ ?_ KP.out B0.out ?_); rfl; rfl; rfl; rfl)
 have hlr : w.heap.size + 2 ≤ w1.heap.size := HL.out
 have AX2 : ApW w (World.setRow w2 w1.heap.size (cellsO res pr).toArray) fp fn := ⟨below_setRowO AX.out.bel (by omega) _, (setRow_other _ _ _ _ (by omega)).trans AX.out.s, AX.out.r.other (by omega)⟩
 have KP2 := KP.out.box B0.out rfl (cellsO res pr).toArray
 have B1' := Bx.set (y := (cellsO res pr).toArray) B0.out
 generalize World.setRow w2 w1.heap.size (cellsO res pr).toArray = X2 at AX2 KP2 B1' ⊢
 replace AX := qh9 AX2
 replace KP := qh9 KP2
 have B1 := qh9 B1'
 clear AX2 KP2 B1' B0
 go_wp2_with ((with_reducible refine loadB (.tmp 8) ?_ ?_ ?_ B1.out ?_); rfl; rfl; rfl)
 refine (CO.out _ _ KP.out (HT.out.below AX.out.bel)).mono ?_
 rintro e w9 ⟨rfl, hb⟩
 replace AX := qh9 (AX.out.keep hb)
 replace KP := qh9 (KP.out.below hb)
 replace B1 := qh9 (B1.out.keep hb)
 clear hb CO
 go_wp2_with ((with_reducible refine storeZ (g := w.heap.size + 1) (.tmp 4) (.tmp 55) ?_ ?_ ?_ ?_ AX.out.r ?_); rfl; rfl; rfl; rfl)
 exact retEz rfl rfl rfl AX.out.r (by omega) AX.out.bel
set_option maxHeartbeats 4000000 in
set_option maxRecDepth 100000 in
theorem applyR1T (fp fn : ByteArray) (x : Ob) (p : Value) (b o c : Nat) (w : World) (res : Ob) (CF : Hid (∀ W, Calls Tryz.prog 24 #[.agg #[.string fp, .string fn]] W (RetIB W 1 true))) (hx : Ad w x b o p) (hc : 1 ≤ c) (ht : Tab w) (CC : Hid (∀ W s, Below w.heap.size w W → Hd W x s → Calls Tryz.prog 41 #[.string fn, vO x s] W (RetH W res))) (CO : Hid (∀ W q, Hd W res q → Tab W → Calls Tryz.prog 11 #[vO res q] W (RetB W true))) : Calls Tryz.prog 22 #[.agg #[.string fp, .string fn], .slice (some ⟨b, o, none⟩) 1 c] w (RetE w (some res, 0)) := by
 have HT := qh9 ht
 have HX := qh9 hx
 clear ht hx
 obtain ⟨a0, a1, a2, a3, a4, a5, ea⟩ := cells7 x p
 have CD : Hid (∀ W, Below w.heap.size w W → Calls Tryz.prog 41 #[.string fn, .agg #[a0, a1, a2, a3, a4, a5, p]] W (RetH W res)) := fun W h => by
  rw [← vO_cells ea]; exact CC.out W p h (HX.out.below h).hd
 clear CC
 have A0 := ApW.new w fp fn
 go_enter Tryz.func22, Tryz.ntmps22
 go_wp2_with fail
 generalize (w.alloc (.cells #[.string fp, .string fn] 24)).alloc (.cells #[.int .i64 0, .string ⟨#[]⟩, .string ⟨#[]⟩, .string ⟨#[]⟩, .string ⟨#[]⟩, .string ⟨#[]⟩, .slice none 0 0] 27) = W at A0 ⊢
 refine (CF.out W).mono ?_
 rintro e w1 ⟨rfl, hb⟩
 have AX := qh9 (A0.keep hb)
 have HL := qh9 (show w.heap.size + 2 ≤ w1.heap.size from by have h1 := A0.r.lt; have h2 := hb.size; omega)
 have HL := qh9 (show w.heap.size + 2 ≤ w1.heap.size from by have h1 := A0.r.lt; have h2 := hb.size; omega)
 clear A0 hb CF
 have T := Bx1.new w1 #[.int .i64 0, .string ⟨#[]⟩, .string ⟨#[]⟩, .string ⟨#[]⟩, .string ⟨#[]⟩, .string ⟨#[]⟩, .slice none 0 0]
 go_upto_region 12 with fail
 generalize w1.alloc (.cells #[.int .i64 0, .string ⟨#[]⟩, .string ⟨#[]⟩, .string ⟨#[]⟩, .string ⟨#[]⟩, .string ⟨#[]⟩, .slice none 0 0] 27) = W1 at T ⊢
 have hb := T.bel
 replace AX := qh9 (AX.out.keep hb)
 have B0 := qh9 T.b0
 clear T hb
 have sn := AX.out.s.c1
 have hbx := (HX.out.below AX.out.bel).2.1
 rw [ea] at hbx
 have l0 := hbx 0 _ rfl
 have l1 := hbx 1 _ rfl
 have l2 := hbx 2 _ rfl
 have l3 := hbx 3 _ rfl
 have l4 := hbx 4 _ rfl
 have l5 := hbx 5 _ rfl
 have l6 := hbx 6 _ rfl
 rw [Nat.add_zero] at l0
 clear hbx
 go_wp2_with fail
 go_still_tail 5, (by kernel_rfl)
 change wpList _ _ _ _ _ W1.drew
 have hb : Below W1.heap.size W1 W1.drew := (Below.refl _ _).drew
 generalize W1.drew = wd at hb ⊢
 replace AX := qh9 (AX.out.keep hb)
 replace B0 := qh9 (B0.out.keep hb)
 clear hb sn l0 l1 l2 l3 l4 l5 l6
 go_wp2_with fail
 refine (CD.out _ AX.out.bel).mono ?_
 rintro e w2 ⟨pr, rfl, kr, hb⟩
 replace AX := qh9 (AX.out.keep hb)
 replace B0 := qh9 (B0.out.keep hb)
 have KP := qh9 kr
 clear hb kr CD
 go_upto_region 15 with ((with_reducible refine storeB (w1 := w2) (g := w1.heap.size) (b := res) (p := pr) (.tmp 8) (.tmp 40) ?_ ?_ ?_ ?_ KP.out B0.out ?_); rfl; rfl; rfl; rfl)
 have hlr : w.heap.size + 2 ≤ w1.heap.size := HL.out
 have AX2 : ApW w (World.setRow w2 w1.heap.size (cellsO res pr).toArray) fp fn := ⟨below_setRowO AX.out.bel (by omega) _, (setRow_other _ _ _ _ (by omega)).trans AX.out.s, AX.out.r.other (by omega)⟩
 have KP2 := KP.out.box B0.out rfl (cellsO res pr).toArray
 have B1' := Bx.set (y := (cellsO res pr).toArray) B0.out
 generalize World.setRow w2 w1.heap.size (cellsO res pr).toArray = X2 at AX2 KP2 B1' ⊢
 replace AX := qh9 AX2
 replace KP := qh9 KP2
 have B1 := qh9 B1'
 clear AX2 KP2 B1' B0
 go_wp2_with ((with_reducible refine loadB (.tmp 8) ?_ ?_ ?_ B1.out ?_); rfl; rfl; rfl)
 refine (CO.out _ _ KP.out (HT.out.below AX.out.bel)).mono ?_
 rintro e w9 ⟨rfl, hb⟩
 replace AX := qh9 (AX.out.keep hb)
 replace KP := qh9 (KP.out.below hb)
 replace B1 := qh9 (B1.out.keep hb)
 clear hb CO
 go_wp2_with (first | ((with_reducible refine loadB (.tmp 8) ?_ ?_ ?_ B1.out ?_); rfl; rfl; rfl) | ((with_reducible refine storeB (w1 := w9) (g := w.heap.size + 1) (b := res) (p := pr) (.tmp 4) (.tmp 56) ?_ ?_ ?_ ?_ KP.out AX.out.r ?_); rfl; rfl; rfl; rfl))
 exact retEo rfl rfl rfl AX.out.r rfl KP.out (by omega) AX.out.bel
set_option maxHeartbeats 4000000 in
set_option maxRecDepth 100000 in
theorem applyR2T (fp fn : ByteArray) (x y : Ob) (p q : Value) (b o c : Nat) (w : World) (res : Ob) (CF : Hid (∀ W, Calls Tryz.prog 24 #[.agg #[.string fp, .string fn]] W (RetIB W 2 true))) (hx : Ad w x b o p) (hy : Ad w y b (o + 7) q) (hc : 2 ≤ c) (ht : Tab w) (CC : Hid (∀ W s t, Below w.heap.size w W → Hd W x s → Hd W y t → Calls Tryz.prog 42 #[.string fn, vO x s, vO y t] W (RetH W res))) (CO : Hid (∀ W q, Hd W res q → Tab W → Calls Tryz.prog 11 #[vO res q] W (RetB W true))) : Calls Tryz.prog 22 #[.agg #[.string fp, .string fn], .slice (some ⟨b, o, none⟩) 2 c] w (RetE w (some res, 0)) := by
 have HT := qh9 ht
 have HX := qh9 hx
 have HY := qh9 hy
 clear ht hx hy
 obtain ⟨a0, a1, a2, a3, a4, a5, ea⟩ := cells7 x p
 obtain ⟨b0, b1, b2, b3, b4, b5, eb⟩ := cells7 y q
 have CD : Hid (∀ W, Below w.heap.size w W → Calls Tryz.prog 42 #[.string fn, .agg #[a0, a1, a2, a3, a4, a5, p], .agg #[b0, b1, b2, b3, b4, b5, q]] W (RetH W res)) := fun W h => by
  rw [← vO_cells ea, ← vO_cells eb]; exact CC.out W p q h (HX.out.below h).hd (HY.out.below h).hd
 clear CC
 have A0 := ApW.new w fp fn
 go_enter Tryz.func22, Tryz.ntmps22
 go_wp2_with fail
 generalize (w.alloc (.cells #[.string fp, .string fn] 24)).alloc (.cells #[.int .i64 0, .string ⟨#[]⟩, .string ⟨#[]⟩, .string ⟨#[]⟩, .string ⟨#[]⟩, .string ⟨#[]⟩, .slice none 0 0] 27) = W at A0 ⊢
 refine (CF.out W).mono ?_
 rintro e w1 ⟨rfl, hb⟩
 have AX := qh9 (A0.keep hb)
 have HL := qh9 (show w.heap.size + 2 ≤ w1.heap.size from by have h1 := A0.r.lt; have h2 := hb.size; omega)
 clear A0 hb CF
 have T := Bx1.new w1 #[.int .i64 0, .string ⟨#[]⟩, .string ⟨#[]⟩, .string ⟨#[]⟩, .string ⟨#[]⟩, .string ⟨#[]⟩, .slice none 0 0]
 go_upto_region 14 with fail
 generalize w1.alloc (.cells #[.int .i64 0, .string ⟨#[]⟩, .string ⟨#[]⟩, .string ⟨#[]⟩, .string ⟨#[]⟩, .string ⟨#[]⟩, .slice none 0 0] 27) = W1 at T ⊢
 have hb := T.bel
 replace AX := qh9 (AX.out.keep hb)
 have B0 := qh9 T.b0
 clear T hb
 have sn := AX.out.s.c1
 have hbx := (HX.out.below AX.out.bel).2.1
 rw [ea] at hbx
 have l0 := hbx 0 _ rfl
 have l1 := hbx 1 _ rfl
 have l2 := hbx 2 _ rfl
 have l3 := hbx 3 _ rfl
 have l4 := hbx 4 _ rfl
 have l5 := hbx 5 _ rfl
 have l6 := hbx 6 _ rfl
 rw [Nat.add_zero] at l0
 have hby := (HY.out.below AX.out.bel).2.1
 rw [eb] at hby
 have n0 := hby 0 _ rfl
 have n1 := hby 1 _ rfl
 have n2 := hby 2 _ rfl
 have n3 := hby 3 _ rfl
 have n4 := hby 4 _ rfl
 have n5 := hby 5 _ rfl
 have n6 := hby 6 _ rfl
 rw [Nat.add_zero] at n0
 simp only [Nat.add_assoc, Nat.reduceAdd] at n1 n2 n3 n4 n5 n6
 clear hbx hby
 go_wp2_with fail
 go_still_tail 8, (by kernel_rfl)
 change wpList _ _ _ _ _ W1.drew
 have hb : Below W1.heap.size W1 W1.drew := (Below.refl _ _).drew
 generalize W1.drew = wd at hb ⊢
 replace AX := qh9 (AX.out.keep hb)
 replace B0 := qh9 (B0.out.keep hb)
 clear hb sn l0 l1 l2 l3 l4 l5 l6 n0 n1 n2 n3 n4 n5 n6
 go_wp2_with fail
 refine (CD.out _ AX.out.bel).mono ?_
 rintro e w2 ⟨pr, rfl, kr, hb⟩
 replace AX := qh9 (AX.out.keep hb)
 replace B0 := qh9 (B0.out.keep hb)
 have KP := qh9 kr
 clear hb kr CD
 go_upto_region 15 with ((with_reducible refine storeB (w1 := w2) (g := w1.heap.size) (b := res) (p := pr) (.tmp 8) (.tmp 51) ?_ ?_ ?_ ?_ KP.out B0.out ?_); rfl; rfl; rfl; rfl)
 have hlr : w.heap.size + 2 ≤ w1.heap.size := HL.out
 have AX2 : ApW w (World.setRow w2 w1.heap.size (cellsO res pr).toArray) fp fn := ⟨below_setRowO AX.out.bel (by omega) _, (setRow_other _ _ _ _ (by omega)).trans AX.out.s, AX.out.r.other (by omega)⟩
 have KP2 := KP.out.box B0.out rfl (cellsO res pr).toArray
 have B1' := Bx.set (y := (cellsO res pr).toArray) B0.out
 generalize World.setRow w2 w1.heap.size (cellsO res pr).toArray = X2 at AX2 KP2 B1' ⊢
 replace AX := qh9 AX2
 replace KP := qh9 KP2
 have B1 := qh9 B1'
 clear AX2 KP2 B1' B0
 go_wp2_with ((with_reducible refine loadB (.tmp 8) ?_ ?_ ?_ B1.out ?_); rfl; rfl; rfl)
 refine (CO.out _ _ KP.out (HT.out.below AX.out.bel)).mono ?_
 rintro e w9 ⟨rfl, hb⟩
 replace AX := qh9 (AX.out.keep hb)
 replace KP := qh9 (KP.out.below hb)
 replace B1 := qh9 (B1.out.keep hb)
 clear hb CO
 go_wp2_with (first | ((with_reducible refine loadB (.tmp 8) ?_ ?_ ?_ B1.out ?_); rfl; rfl; rfl) | ((with_reducible refine storeB (w1 := w9) (g := w.heap.size + 1) (b := res) (p := pr) (.tmp 4) (.tmp 56) ?_ ?_ ?_ ?_ KP.out AX.out.r ?_); rfl; rfl; rfl; rfl))
 exact retEo rfl rfl rfl AX.out.r rfl KP.out (by omega) AX.out.bel
end Go.Proofs.YtbffnoodpoagcaaGreatDoor
