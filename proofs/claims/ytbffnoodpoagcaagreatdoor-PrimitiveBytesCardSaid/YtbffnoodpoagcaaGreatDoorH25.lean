import Derived.Test.YtbffnoodpoagcaaGreatDoorAl
import Derived.Test.YtbffnoodpoagcaaGreatDoorH23
import Derived.Test.YtbffnoodpoagcaaGreatDoorH24
import Derived.BigRegion
import Derived.Test.YtbffnoodpoagcaaGreatDoorH11
import Derived.Test.YtbffnoodpoagcaaGreatDoorH13
namespace Go.Proofs.YtbffnoodpoagcaaGreatDoor
open Go Go.RowKit
set_option linter.unusedVariables false
section
variable {Q : Exit → Act → World → Prop} {ops : Array Oper} {K : Act → World → Prop} {a : Act} {w : World} {i : Nat} {o : Oper}
theorem bd090 : (inO 0).bd 90 := (⟨by decide, by decide⟩ : Bd 90 0)
theorem gw_idx10 (ho : ops[i]? = some o) (hw : Region.wanted o (yielded ops a.tmps) = true) (s : Tmp) (b off c : Nat) (hop : o.op = Op.indexAddr 25 (.tmp s) (.const (.int .i64 0))) (hx : a.tmps[s]? = some (.slice (some ⟨b, off, none⟩) 1 c)) (hK : K (a.put o.dst (.pointer (some ⟨b, off, none⟩))) w) : wpOp Tryz.prog ops Q i K a w :=
 wpOp_step ho fun K' hK' => by
  rw [if_pos hw]
  unfold Oper.wp
  simp only [execOp, hop]
  go_simp
  exact hK' _ _ hK
theorem gw_idx20 (ho : ops[i]? = some o) (hw : Region.wanted o (yielded ops a.tmps) = true) (s : Tmp) (b off c : Nat) (hop : o.op = Op.indexAddr 25 (.tmp s) (.const (.int .i64 0))) (hx : a.tmps[s]? = some (.slice (some ⟨b, off, none⟩) 2 c)) (hK : K (a.put o.dst (.pointer (some ⟨b, off, none⟩))) w) : wpOp Tryz.prog ops Q i K a w :=
 wpOp_step ho fun K' hK' => by
  rw [if_pos hw]
  unfold Oper.wp
  simp only [execOp, hop]
  go_simp
  exact hK' _ _ hK
theorem gw_idx21 (ho : ops[i]? = some o) (hw : Region.wanted o (yielded ops a.tmps) = true) (s : Tmp) (b off c : Nat) (hop : o.op = Op.indexAddr 25 (.tmp s) (.const (.int .i64 1))) (hx : a.tmps[s]? = some (.slice (some ⟨b, off, none⟩) 2 c)) (hK : K (a.put o.dst (.pointer (some ⟨b, off + 7, none⟩))) w) : wpOp Tryz.prog ops Q i K a w :=
 wpOp_step ho fun K' hK' => by
  rw [if_pos hw]
  unfold Oper.wp
  simp only [execOp, hop]
  go_simp
  exact hK' _ _ hK
theorem gw_neq (ho : ops[i]? = some o) (hw : Region.wanted o (yielded ops a.tmps) = true) (s : Tmp) (n : Int) (hop : o.op = Op.binOp BinOp.neq 3 (.tmp s) (.const (.int .i64 0)) 3) (hx : a.tmps[s]? = some (.int .i64 n)) (hK : K (a.put o.dst (.bool (n != 0))) w) : wpOp Tryz.prog ops Q i K a w :=
 wpOp_step ho fun K' hK' => by
  rw [if_pos hw]
  unfold Oper.wp
  simp only [execOp, hop]
  go_simp
  exact hK' _ _ hK
theorem gw_ext0 (ho : ops[i]? = some o) (hw : Region.wanted o (yielded ops a.tmps) = true) (s : Tmp) (u v : Value) (hop : o.op = Op.extract (.tmp s) 0) (hx : a.tmps[s]? = some (.tuple #[u, v])) (hK : K (a.put o.dst u) w) : wpOp Tryz.prog ops Q i K a w :=
 wpOp_step ho fun K' hK' => by
  rw [if_pos hw]
  unfold Oper.wp
  simp only [execOp, hop]
  go_simp
  exact hK' _ _ hK
theorem gw_ext1 (ho : ops[i]? = some o) (hw : Region.wanted o (yielded ops a.tmps) = true) (s : Tmp) (u v : Value) (hop : o.op = Op.extract (.tmp s) 1) (hx : a.tmps[s]? = some (.tuple #[u, v])) (hK : K (a.put o.dst v) w) : wpOp Tryz.prog ops Q i K a w :=
 wpOp_step ho fun K' hK' => by
  rw [if_pos hw]
  unfold Oper.wp
  simp only [execOp, hop]
  go_simp
  exact hK' _ _ hK
theorem gw_lda (ho : ops[i]? = some o) (hw : Region.wanted o (yielded ops a.tmps) = true) (s : Tmp) {g k : Nat} {b : Ob} {p : Value} (hop : o.op = .load 27 (.tmp s)) (hx : a.tmps[s]? = some (.pointer (some ⟨g, k, none⟩))) (hb : Ad w b g k p)
 (hK : K (a.put o.dst (vO b p)) w) : wpOp Tryz.prog ops Q i K a w :=
 wpOp_step ho fun K' hK' => by
  rw [if_pos hw]
  exact wp_load_mid 27 (.tmp s) hop g k (eval_of hx) (cellsO b p) _ hb.2.1 Tryz.underlying27 rfl (by rw [cellsO_length]; kernel_rfl) (hK' _ _ hK)
end
set_option maxHeartbeats 4000000 in
set_option maxRecDepth 100000 in
theorem isDivisorN (x : Ob) (b o c : Nat) (p : Value) (w : World) (hx : Ad w x b o p) (hc : 1 ≤ c) (hr : x.isNumB = false) (ht : Tab w) : Calls Tryz.prog 92 #[.slice (some ⟨b, o, none⟩) 1 c] w (RetB w false) := by
 have CN : Hid (∀ W, Below w.heap.size w W → Calls Tryz.prog 88 #[.slice (some ⟨b, o, none⟩) 1 c] W (RetB W false)) := fun W hb => by
  have h := areNumbersP [x] _ W (ar1 (hx.below hb) hc) (Nat.le_of_ble_eq_true rfl)
  rw [show [x].all Ob.isNumB = false by rw [List.all_cons, hr]; rfl] at h
  exact h
 clear hr
 have HX := qh9 hx
 have HK := qh9 hx.hd
 have HT := qh9 ht
 have HW := qh9 (Below.refl w.heap.size w)
 clear hx ht
 go_enter Tryz.func92, Tryz.ntmps92
 go_wp2_with fail
 refine wp_region_grow (l := _) 10 (by kernel_rfl) (by kernel_rfl) (fun i => [3, 4, 5, 6, 7, 8, 9, 10, 11, 12].getD i 0) (LR [LV (.slice (some ⟨b, o, none⟩) 1 c), LV (.bool false), LV (.bool false), LV undef, LV undef, LV undef, LV undef, LV undef, LV undef, LV (.bool false)]) (LR_mono (l := [LV (.slice (some ⟨b, o, none⟩) 1 c), LV (.bool false), LV (.bool false), LV undef, LV undef, LV undef, LV undef, LV undef, LV undef, LV (.bool false)]) ⟨mLV _, mLV _, mLV _, mLV _, mLV _, mLV _, mLV _, mLV _, mLV _, mLV _, trivial⟩) (by
  intro i j hi hj h
  exact inj_getD [3, 4, 5, 6, 7, 8, 9, 10, 11, 12] (by decide) i j hi hj h) (by
  intro i hi
  exact lt_getD 13 [3, 4, 5, 6, 7, 8, 9, 10, 11, 12] (by decide) i hi) ?step ?done
 case step =>
  intro i hi a w9 v lo hi' hoth hb hw
  have sl0 : a.tmps[0]? = some (.slice (some ⟨b, o, none⟩) 1 c) := (hoth 0 (fun j hj => by
   have := ne_getD 0 [3, 4, 5, 6, 7, 8, 9, 10, 11, 12] (by decide) j hj
   exact this)).trans rfl
  match i, hi with
  | 0, _ =>
   exact gw_move rfl (wanted_plain rfl) 0 _ rfl sl0 ⟨_, rfl, Below.refl _ _, rfl⟩
  | 1, _ =>
   obtain ⟨s0, r0, _⟩ := hw 0 (by omega) (by kernel_rfl)
   have e0 : v 0 = .slice (some ⟨b, o, none⟩) 1 c := r0
   rw [e0] at s0
   refine gw_t rfl (wanted_plain rfl) 88 3 _ _ rfl (fun v w => by go_simp) s0 ?_
   with_reducible refine (CN.out w9 hb).mono ?_
   rintro e w3 ⟨rfl, hb3⟩
   exact ⟨_, rfl, _, rfl, hb3, rfl⟩
  | 2, _ =>
   obtain ⟨s0, r0, _⟩ := hw 1 (by omega) (by kernel_rfl)
   have e0 : v 1 = .bool false := r0
   rw [e0] at s0
   exact gw_move rfl (wanted_plain rfl) 4 _ rfl s0 ⟨_, rfl, Below.refl _ _, rfl⟩
  | 3, _ =>
   obtain ⟨s9, r9, _⟩ := hw 2 (by omega) (by kernel_rfl)
   have e9 : v 2 = .bool false := r9
   rw [e9] at s9
   exact gw_skip rfl (wanted_off rfl rfl rfl s9 rfl) ⟨_, rfl, Below.refl _ _, rfl⟩
  | 4, _ =>
   obtain ⟨s9, r9, _⟩ := hw 2 (by omega) (by kernel_rfl)
   have e9 : v 2 = .bool false := r9
   rw [e9] at s9
   exact gw_skip rfl (wanted_off rfl rfl rfl s9 rfl) ⟨_, rfl, Below.refl _ _, rfl⟩
  | 5, _ =>
   obtain ⟨s9, r9, _⟩ := hw 2 (by omega) (by kernel_rfl)
   have e9 : v 2 = .bool false := r9
   rw [e9] at s9
   exact gw_skip rfl (wanted_off rfl rfl rfl s9 rfl) ⟨_, rfl, Below.refl _ _, rfl⟩
  | 6, _ =>
   obtain ⟨s9, r9, _⟩ := hw 2 (by omega) (by kernel_rfl)
   have e9 : v 2 = .bool false := r9
   rw [e9] at s9
   exact gw_skip rfl (wanted_off rfl rfl rfl s9 rfl) ⟨_, rfl, Below.refl _ _, rfl⟩
  | 7, _ =>
   obtain ⟨s9, r9, _⟩ := hw 2 (by omega) (by kernel_rfl)
   have e9 : v 2 = .bool false := r9
   rw [e9] at s9
   exact gw_skip rfl (wanted_off rfl rfl rfl s9 rfl) ⟨_, rfl, Below.refl _ _, rfl⟩
  | 8, _ =>
   obtain ⟨s9, r9, _⟩ := hw 2 (by omega) (by kernel_rfl)
   have e9 : v 2 = .bool false := r9
   rw [e9] at s9
   exact gw_skip rfl (wanted_off rfl rfl rfl s9 rfl) ⟨_, rfl, Below.refl _ _, rfl⟩
  | 9, _ =>
   obtain ⟨s0, r0, _⟩ := hw 2 (by omega) (by kernel_rfl)
   have e0 : v 2 = .bool false := r0
   rw [e0] at s0
   exact gw_pickF rfl (wanted_plain rfl) 5 _ _ rfl s0 ⟨_, rfl, Below.refl _ _, rfl⟩
 case done =>
  intro a w9 v lo hi' hdef hsz hoth hb hj hap
  obtain ⟨_, hv9, _, _⟩ := hj 9 (by omega)
  have ha := eq_puts hdef hsz hoth (fun i hi => (hj i hi).1)
  subst ha
  clear hj hoth hdef hsz hap
  change v 9 = _ at hv9
  simp only [puts, List.getD_cons_zero, List.getD_cons_succ, hv9]
  generalize v 0 = v0
  generalize v 1 = v1
  generalize v 2 = v2
  generalize v 3 = v3
  generalize v 4 = v4
  generalize v 5 = v5
  generalize v 6 = v6
  generalize v 7 = v7
  generalize v 8 = v8
  clear hv9
  simp only [Act.put, List.setIfInBounds_toArray, List.set_cons_zero, List.set_cons_succ]
  show wpList _ _ _ [_] _ _
  replace HK := qh9 (HK.out.below hb)
  replace HT := qh9 (HT.out.below hb)
  replace HW := qc9 HW hb
  replace HX := qh9 (HX.out.below hb)
  clear hb
  go_wp2_with (first | ((with_reducible refine loadA ?_ ?_ HX.out ?_); exact ⟨_, rfl, rfl⟩; rfl) | ((with_reducible refine loadAG ?_ ?_ HX.out ?_); exact ⟨_, rfl, rfl⟩; rfl))
  go_ret
  exact ⟨rfl, HW.out⟩
set_option maxHeartbeats 4000000 in
set_option maxRecDepth 100000 in
theorem isDivisorT (x : Ob) (b o c : Nat) (p : Value) (w : World) (hx : Ad w x b o p) (hc : 1 ≤ c) (hr : x.isNumB = true) (hbd : x.bd 90) (hn : x.nodes ≤ 3000) (r : Bool) (hr2 : decide (ordO x (.num 0) ≠ 0) = r) (ht : Tab w) : Calls Tryz.prog 92 #[.slice (some ⟨b, o, none⟩) 1 c] w (RetB w r) := by
 have CN : Hid (∀ W, Below w.heap.size w W → Calls Tryz.prog 88 #[.slice (some ⟨b, o, none⟩) 1 c] W (RetB W true)) := fun W hb => by
  have h := areNumbersP [x] _ W (ar1 (hx.below hb) hc) (Nat.le_of_ble_eq_true rfl)
  rw [show [x].all Ob.isNumB = true by rw [List.all_cons, hr]; rfl] at h
  exact h
 have CI : Hid (∀ W, Below w.heap.size w W → Calls Tryz.prog 137 #[.int .i64 0] W (RetH W (inO 0))) := fun W hb => intH 0 W (i64_small (by omega)) (ht.below hb)
 have CC : Hid (∀ W p q, Below w.heap.size w W → Hd W x p → Hd W (inO 0) q → Calls Tryz.prog 136 #[vO x p, vO (inO 0) q] W (RetI W (ordO x (.num 0)))) := fun W p q hb hp hq =>
  compareP 90 (by decide) x (inO 0) p q W (Has W) (In.has W) hp hq hbd bd090 hn
 clear hr hbd hn
 generalize ordO x (.num 0) = n at CC hr2
 have hr3 : (n != 0) = r := by rw [← hr2]; by_cases h0 : n = 0 <;> simp [h0]
 subst hr3
 clear hr2
 have HX := qh9 hx
 have HK := qh9 hx.hd
 have HT := qh9 ht
 have HW := qh9 (Below.refl w.heap.size w)
 clear hx ht
 go_enter Tryz.func92, Tryz.ntmps92
 go_wp2_with fail
 refine wp_region_grow (l := _) 10 (by kernel_rfl) (by kernel_rfl) (fun i => [3, 4, 5, 6, 7, 8, 9, 10, 11, 12].getD i 0) (LR [LV (.slice (some ⟨b, o, none⟩) 1 c), LV (.bool true), LV (.bool true), LV (.slice (some ⟨b, o, none⟩) 1 c), LV (.pointer (some ⟨b, o, none⟩)), LV (vO (x) p), LH (inO 0), LV (.int .i64 (n)), LV (.bool (n != 0)), LV (.bool (n != 0))]) (LR_mono (l := [LV (.slice (some ⟨b, o, none⟩) 1 c), LV (.bool true), LV (.bool true), LV (.slice (some ⟨b, o, none⟩) 1 c), LV (.pointer (some ⟨b, o, none⟩)), LV (vO (x) p), LH (inO 0), LV (.int .i64 (n)), LV (.bool (n != 0)), LV (.bool (n != 0))]) ⟨mLV _, mLV _, mLV _, mLV _, mLV _, mLV _, mLH _, mLV _, mLV _, mLV _, trivial⟩) (by
  intro i j hi hj h
  exact inj_getD [3, 4, 5, 6, 7, 8, 9, 10, 11, 12] (by decide) i j hi hj h) (by
  intro i hi
  exact lt_getD 13 [3, 4, 5, 6, 7, 8, 9, 10, 11, 12] (by decide) i hi) ?step ?done
 case step =>
  intro i hi a w9 v lo hi' hoth hb hw
  have sl0 : a.tmps[0]? = some (.slice (some ⟨b, o, none⟩) 1 c) := (hoth 0 (fun j hj => by
   have := ne_getD 0 [3, 4, 5, 6, 7, 8, 9, 10, 11, 12] (by decide) j hj
   exact this)).trans rfl
  match i, hi with
  | 0, _ =>
   exact gw_move rfl (wanted_plain rfl) 0 _ rfl sl0 ⟨_, rfl, Below.refl _ _, rfl⟩
  | 1, _ =>
   obtain ⟨s0, r0, _⟩ := hw 0 (by omega) (by kernel_rfl)
   have e0 : v 0 = .slice (some ⟨b, o, none⟩) 1 c := r0
   rw [e0] at s0
   refine gw_t rfl (wanted_plain rfl) 88 3 _ _ rfl (fun v w => by go_simp) s0 ?_
   with_reducible refine (CN.out w9 hb).mono ?_
   rintro e w3 ⟨rfl, hb3⟩
   exact ⟨_, rfl, _, rfl, hb3, rfl⟩
  | 2, _ =>
   obtain ⟨s0, r0, _⟩ := hw 1 (by omega) (by kernel_rfl)
   have e0 : v 1 = .bool true := r0
   rw [e0] at s0
   exact gw_move rfl (wanted_plain rfl) 4 _ rfl s0 ⟨_, rfl, Below.refl _ _, rfl⟩
  | 3, _ =>
   obtain ⟨s9, r9, _⟩ := hw 2 (by omega) (by kernel_rfl)
   have e9 : v 2 = .bool true := r9
   rw [e9] at s9
   exact gw_move rfl (wanted_on rfl rfl rfl s9 rfl) 0 _ rfl sl0 ⟨_, rfl, Below.refl _ _, rfl⟩
  | 4, _ =>
   obtain ⟨s9, r9, _⟩ := hw 2 (by omega) (by kernel_rfl)
   have e9 : v 2 = .bool true := r9
   rw [e9] at s9
   obtain ⟨s0, r0, _⟩ := hw 3 (by omega) (by kernel_rfl)
   have e0 : v 3 = .slice (some ⟨b, o, none⟩) 1 c := r0
   rw [e0] at s0
   exact gw_idx10 rfl (wanted_on rfl rfl rfl s9 rfl) 6 _ _ _ rfl s0 ⟨_, rfl, Below.refl _ _, rfl⟩
  | 5, _ =>
   obtain ⟨s9, r9, _⟩ := hw 2 (by omega) (by kernel_rfl)
   have e9 : v 2 = .bool true := r9
   rw [e9] at s9
   obtain ⟨s0, r0, _⟩ := hw 4 (by omega) (by kernel_rfl)
   have e0 : v 4 = .pointer (some ⟨b, o, none⟩) := r0
   rw [e0] at s0
   exact gw_lda rfl (wanted_on rfl rfl rfl s9 rfl) 7 rfl s0 (HX.out.below hb) ⟨_, rfl, Below.refl _ _, rfl⟩
  | 6, _ =>
   obtain ⟨s9, r9, _⟩ := hw 2 (by omega) (by kernel_rfl)
   have e9 : v 2 = .bool true := r9
   rw [e9] at s9
   refine gw_c rfl (wanted_on rfl rfl rfl s9 rfl) 137  _ _ rfl (fun v w => by go_simp)  ?_
   with_reducible refine (CI.out w9 hb).mono ?_
   rintro e w3 ⟨p, rfl, hp, hb3⟩
   exact ⟨_, rfl, _, rfl, hb3, p, rfl, hp⟩
  | 7, _ =>
   obtain ⟨s9, r9, _⟩ := hw 2 (by omega) (by kernel_rfl)
   have e9 : v 2 = .bool true := r9
   rw [e9] at s9
   obtain ⟨s0, r0, _⟩ := hw 5 (by omega) (by kernel_rfl)
   have e0 : v 5 = vO (x) p := r0
   rw [e0] at s0
   obtain ⟨s1, r1, _⟩ := hw 6 (by omega) (by kernel_rfl)
   obtain ⟨qq1, e1, kk1⟩ : LH (inO 0) (v 6) (lo 6) (hi' 6) w9 := r1
   rw [e1] at s1
   refine gw_tt rfl (wanted_on rfl rfl rfl s9 rfl) 136 8 9 _ _ _ rfl (fun v u w => by go_simp) s0 s1 ?_
   with_reducible refine (CC.out w9 _ _ hb (HK.out.below hb) kk1).mono ?_
   rintro e w3 ⟨rfl, hb3⟩
   exact ⟨_, rfl, _, rfl, hb3, rfl⟩
  | 8, _ =>
   obtain ⟨s9, r9, _⟩ := hw 2 (by omega) (by kernel_rfl)
   have e9 : v 2 = .bool true := r9
   rw [e9] at s9
   obtain ⟨s0, r0, _⟩ := hw 7 (by omega) (by kernel_rfl)
   have e0 : v 7 = .int .i64 (n) := r0
   rw [e0] at s0
   exact gw_neq rfl (wanted_on rfl rfl rfl s9 rfl) 10 _ rfl s0 ⟨_, rfl, Below.refl _ _, rfl⟩
  | 9, _ =>
   obtain ⟨s0, r0, _⟩ := hw 2 (by omega) (by kernel_rfl)
   have e0 : v 2 = .bool true := r0
   rw [e0] at s0
   obtain ⟨s1, r1, _⟩ := hw 8 (by omega) (by kernel_rfl)
   have e1 : v 8 = .bool (n != 0) := r1
   rw [e1] at s1
   exact gw_pickT rfl (wanted_plain rfl) 5 11 _ _ rfl s0 s1 ⟨_, rfl, Below.refl _ _, rfl⟩
 case done =>
  intro a w9 v lo hi' hdef hsz hoth hb hj hap
  obtain ⟨_, hv9, _, _⟩ := hj 9 (by omega)
  have ha := eq_puts hdef hsz hoth (fun i hi => (hj i hi).1)
  subst ha
  clear hj hoth hdef hsz hap
  change v 9 = _ at hv9
  simp only [puts, List.getD_cons_zero, List.getD_cons_succ, hv9]
  generalize v 0 = v0
  generalize v 1 = v1
  generalize v 2 = v2
  generalize v 3 = v3
  generalize v 4 = v4
  generalize v 5 = v5
  generalize v 6 = v6
  generalize v 7 = v7
  generalize v 8 = v8
  clear hv9
  simp only [Act.put, List.setIfInBounds_toArray, List.set_cons_zero, List.set_cons_succ]
  show wpList _ _ _ [_] _ _
  replace HK := qh9 (HK.out.below hb)
  replace HT := qh9 (HT.out.below hb)
  replace HW := qc9 HW hb
  replace HX := qh9 (HX.out.below hb)
  clear hb
  go_wp2_with (first | ((with_reducible refine loadA ?_ ?_ HX.out ?_); exact ⟨_, rfl, rfl⟩; rfl) | ((with_reducible refine loadAG ?_ ?_ HX.out ?_); exact ⟨_, rfl, rfl⟩; rfl))
  go_ret
  exact ⟨rfl, HW.out⟩
theorem isDivisorP (x : Ob) (b o c : Nat) (p : Value) (w : World) (hx : Ad w x b o p) (hc : 1 ≤ c) (hbd : x.bd 90) (hn : x.nodes ≤ 3000) (ht : Tab w) : Calls Tryz.prog 92 #[.slice (some ⟨b, o, none⟩) 1 c] w (RetB w (x.isNumB && decide (x.fix ≠ 0))) := by
 cases hr : x.isNumB with
 | false => exact isDivisorN x b o c p w hx hc hr ht
 | true =>
  refine isDivisorT x b o c p w hx hc hr hbd hn _ ?_ ht
  cases x with
  | num q =>
   show decide (ordO (.num q) (.num 0) ≠ 0) = (true && decide (q ≠ 0))
   rw [Bool.true_and]
   have h : ordO (.num q) (.num 0) = 0 ↔ q = 0 := ⟨fun e => by injection (ordO_zero _ _).1 e, fun e => (ordO_zero _ _).2 (by rw [e])⟩
   exact decide_eq_decide.2 (not_congr h)
  | _ => cases hr
set_option maxHeartbeats 4000000 in
set_option maxRecDepth 100000 in
theorem isIndexedP (x y : Ob) (b o c : Nat) (p q : Value) (w : World) (hx : Ad w x b o p) (hy : Ad w y b (o + 7) q) (hc : 2 ≤ c) (hl : x.strV.length ≤ 2000) (h64 : IntO y) : Calls Tryz.prog 105 #[.slice (some ⟨b, o, none⟩) 2 c] w (RetB w (idxV x.strV.length y).isSome) := by
 obtain ⟨a0, a1, a2, a3, a4, a5, ea⟩ := cells7 x p
 obtain ⟨b0, b1, b2, b3, b4, b5, eb⟩ := cells7 y q
 have CT : Hid (∀ W, Calls Tryz.prog 145 #[.agg #[a0, a1, a2, a3, a4, a5, p]] W (RetY W (.string (BA x.strV)))) := fun W => by
  rw [← vO_cells ea]; exact textV x p W
 have CB : Hid (∀ W, Below w.heap.size w W → Calls Tryz.prog 146 #[.int .i64 ((BA x.strV).size : Int), .agg #[b0, b1, b2, b3, b4, b5, q]] W (RetIB W (((idxV x.strV.length y).getD 0 : Nat) : Int) (idxV x.strV.length y).isSome)) := fun W hb => by
  rw [BA_size, ← vO_cells eb]
  exact belowP x.strV.length (by omega) y q W (hy.below hb).hd h64
 have FB : Hid (∀ W, Below w.heap.size w W → (W.cell? ⟨b, o, none⟩ = some a0 ∧ W.cell? ⟨b, o + 1, none⟩ = some a1 ∧ W.cell? ⟨b, o + 2, none⟩ = some a2 ∧ W.cell? ⟨b, o + 3, none⟩ = some a3 ∧ W.cell? ⟨b, o + 4, none⟩ = some a4 ∧ W.cell? ⟨b, o + 5, none⟩ = some a5 ∧ W.cell? ⟨b, o + 6, none⟩ = some p) ∧ W.cell? ⟨b, o + 7, none⟩ = some b0 ∧ W.cell? ⟨b, o + 8, none⟩ = some b1 ∧ W.cell? ⟨b, o + 9, none⟩ = some b2 ∧ W.cell? ⟨b, o + 10, none⟩ = some b3 ∧ W.cell? ⟨b, o + 11, none⟩ = some b4 ∧ W.cell? ⟨b, o + 12, none⟩ = some b5 ∧ W.cell? ⟨b, o + 13, none⟩ = some q) := fun W hb => by
  have h := (hx.below hb).2.1
  rw [ea] at h
  have g := (hy.below hb).2.1
  rw [eb] at g
  exact ⟨⟨h 0 _ rfl, h 1 _ rfl, h 2 _ rfl, h 3 _ rfl, h 4 _ rfl, h 5 _ rfl, h 6 _ rfl⟩, g 0 _ rfl, g 1 _ rfl, g 2 _ rfl, g 3 _ rfl, g 4 _ rfl, g 5 _ rfl, g 6 _ rfl⟩
 clear hx hy h64 hl
 generalize ((idxV x.strV.length y).getD 0 : Nat) = k at CB
 generalize (idxV x.strV.length y).isSome = r at CB ⊢
 generalize BA x.strV = s at CT CB
 have hB0 : Below w.heap.size w w.drew := (Below.refl _ _).drew
 obtain ⟨⟨l0, l1, l2, l3, l4, l5, l6⟩, n0, n1, n2, n3, n4, n5, n6⟩ := FB.out _ hB0
 go_enter Tryz.func105, Tryz.ntmps105
 go_wp2_with fail
 go_region_with (first
  | (go_at_call 145; refine (CT.out _).mono ?_; rintro e w3 ⟨rfl, hb3⟩; have hB3 := chain2 ‹Below w.heap.size w _› hb3 (Nat.le_refl _); obtain ⟨⟨l0, l1, l2, l3, l4, l5, l6⟩, n0, n1, n2, n3, n4, n5, n6⟩ := FB.out _ hB3)
  | (go_at_call 146; refine (CB.out _ ‹Below w.heap.size w _›).mono ?_; rintro e w4 ⟨rfl, hb4⟩; have hB4 := chain2 ‹Below w.heap.size w _› hb4 (Nat.le_refl _)))
 all_goals go_wp2
 all_goals go_ret
 all_goals exact ⟨rfl, ‹Below w.heap.size w _›⟩
set_option maxHeartbeats 4000000 in
set_option maxRecDepth 100000 in
theorem isByteP (x : Ob) (b o c : Nat) (p : Value) (w : World) (hx : Ad w x b o p) (hc : 1 ≤ c) (h64 : IntO x) : Calls Tryz.prog 107 #[.slice (some ⟨b, o, none⟩) 1 c] w (RetB w (idxV 256 x).isSome) := by
 have HX := qh9 hx
 have CB : Hid (∀ W p, Hd W x p → Calls Tryz.prog 146 #[.int .i64 256, vO x p] W (RetIB W (((idxV 256 x).getD 0 : Nat) : Int) (idxV 256 x).isSome)) := fun W p hp => belowP 256 (by omega) x p W hp h64
 clear hx h64
 generalize ((idxV 256 x).getD 0 : Nat) = k at CB
 generalize (idxV 256 x).isSome = r at CB ⊢
 go_enter Tryz.func107, Tryz.ntmps107
 go_wp2_with (first
  | ((with_reducible refine loadA ?_ ?_ HX.out ?_); exact ⟨_, rfl, rfl⟩; rfl))
 refine (CB.out _ _ HX.out.hd).mono ?_
 rintro e w1 ⟨rfl, hb⟩
 go_wp2
 go_ret
 exact ⟨rfl, hb⟩
def fV (f : FuncId) : Value := .func (.func f) #[] #[]
def vfL : List Nat := [75, 77, 78, 79, 81, 82, 83, 84, 85, 86, 87, 89, 90, 91, 93, 94, 95, 96, 97, 99, 100, 102, 103, 104, 106]
def gfL : List Nat := [76, 76, 76, 80, 80, 76, 76, 76, 76, 76, 88, 88, 88, 92, 88, 88, 88, 88, 98, 98, 101, 101, 101, 105, 107]
def nmS (i : Nat) : ByteArray := BA (nmB.getD i [])
def arI (i : Nat) : Int := ((arB.getD i 0 : Nat) : Int)
def vfI (i : Nat) : Nat := vfL.getD i 0
def gfI (i : Nat) : Nat := gfL.getD i 0
def tblA : Array Value := #[.string ⟨#[105, 102]⟩, .int .i64 3, fV 75, fV 76, .string ⟨#[101, 113, 117, 97, 108]⟩, .int .i64 2, fV 77, fV 76, .string ⟨#[99, 111, 110, 115]⟩, .int .i64 2, fV 78, fV 76, .string ⟨#[99, 97, 114]⟩, .int .i64 1, fV 79, fV 80, .string ⟨#[99, 100, 114]⟩, .int .i64 1, fV 81, fV 80, .string ⟨#[99, 111, 110, 115, 112]⟩, .int .i64 1, fV 82, fV 76, .string ⟨#[115, 121, 109, 98, 111, 108, 112]⟩, .int .i64 1, fV 83, fV 76, .string ⟨#[115, 116, 114, 105, 110, 103, 112]⟩, .int .i64 1, fV 84, fV 76, .string ⟨#[114, 97, 116, 105, 111, 110, 97, 108, 112]⟩, .int .i64 1, fV 85, fV 76, .string ⟨#[105, 110, 116, 101, 103, 101, 114, 112]⟩, .int .i64 1, fV 86, fV 76, .string ⟨#[98, 105, 110, 97, 114, 121, 45, 43]⟩, .int .i64 2, fV 87, fV 88, .string ⟨#[98, 105, 110, 97, 114, 121, 45, 42]⟩, .int .i64 2, fV 89, fV 88, .string ⟨#[117, 110, 97, 114, 121, 45, 45]⟩, .int .i64 1, fV 90, fV 88, .string ⟨#[117, 110, 97, 114, 121, 45, 47]⟩, .int .i64 1, fV 91, fV 92, .string ⟨#[60]⟩, .int .i64 2, fV 93, fV 88, .string ⟨#[110, 117, 109, 101, 114, 97, 116, 111, 114]⟩, .int .i64 1, fV 94, fV 88, .string ⟨#[100, 101, 110, 111, 109, 105, 110, 97, 116, 111, 114]⟩, .int .i64 1, fV 95, fV 88, .string ⟨#[102, 108, 111, 111, 114]⟩, .int .i64 1, fV 96, fV 88, .string ⟨#[115, 121, 109, 98, 111, 108, 45, 110, 97, 109, 101]⟩, .int .i64 1, fV 97, fV 98, .string ⟨#[115, 121, 109, 98, 111, 108, 45, 112, 97, 99, 107, 97, 103, 101, 45, 110, 97, 109, 101]⟩, .int .i64 1, fV 99, fV 98, .string ⟨#[105, 110, 116, 101, 114, 110]⟩, .int .i64 2, fV 100, fV 101, .string ⟨#[115, 116, 114, 105, 110, 103, 45, 97, 112, 112, 101, 110, 100]⟩, .int .i64 2, fV 102, fV 101, .string ⟨#[115, 116, 114, 105, 110, 103, 45, 108, 101, 110, 103, 116, 104]⟩, .int .i64 1, fV 103, fV 101, .string ⟨#[115, 116, 114, 105, 110, 103, 45, 98, 121, 116, 101]⟩, .int .i64 2, fV 104, fV 105, .string ⟨#[98, 121, 116, 101, 45, 115, 116, 114, 105, 110, 103]⟩, .int .i64 1, fV 106, fV 107]
def tblV : Value := .agg tblA
def rowV (i : Nat) : Value := .agg #[.string (nmS i), .int .i64 (arI i), fV (vfI i), fV (gfI i)]
theorem tbl_row : ∀ (i : Nat), i < 25 → ∀ w : World, (Instr.index 81 tblV (.int .i64 (i : Int))).run Tryz.prog w = .ok (rowV i) w
 | 0, _, w => by kernel_rfl
 | 1, _, w => by kernel_rfl
 | 2, _, w => by kernel_rfl
 | 3, _, w => by kernel_rfl
 | 4, _, w => by kernel_rfl
 | 5, _, w => by kernel_rfl
 | 6, _, w => by kernel_rfl
 | 7, _, w => by kernel_rfl
 | 8, _, w => by kernel_rfl
 | 9, _, w => by kernel_rfl
 | 10, _, w => by kernel_rfl
 | 11, _, w => by kernel_rfl
 | 12, _, w => by kernel_rfl
 | 13, _, w => by kernel_rfl
 | 14, _, w => by kernel_rfl
 | 15, _, w => by kernel_rfl
 | 16, _, w => by kernel_rfl
 | 17, _, w => by kernel_rfl
 | 18, _, w => by kernel_rfl
 | 19, _, w => by kernel_rfl
 | 20, _, w => by kernel_rfl
 | 21, _, w => by kernel_rfl
 | 22, _, w => by kernel_rfl
 | 23, _, w => by kernel_rfl
 | 24, _, w => by kernel_rfl
 | k + 25, h, _ => absurd h (by omega)
set_option maxHeartbeats 4000000 in
set_option maxRecDepth 100000 in
theorem tableP (w : World) : Calls Tryz.prog 50 #[] w fun e w' => e = .returned tblV ∧ Below w.heap.size w w' := by
 have hbuild : ∀ W : World, (Instr.build 81 #[(0, .agg #[.string ⟨#[105, 102]⟩, .int .i64 3, .func (.func 75) #[] #[], .func (.func 76) #[] #[]]), (1, .agg #[.string ⟨#[101, 113, 117, 97, 108]⟩, .int .i64 2, .func (.func 77) #[] #[], .func (.func 76) #[] #[]]), (2, .agg #[.string ⟨#[99, 111, 110, 115]⟩, .int .i64 2, .func (.func 78) #[] #[], .func (.func 76) #[] #[]]), (3, .agg #[.string ⟨#[99, 97, 114]⟩, .int .i64 1, .func (.func 79) #[] #[], .func (.func 80) #[] #[]]), (4, .agg #[.string ⟨#[99, 100, 114]⟩, .int .i64 1, .func (.func 81) #[] #[], .func (.func 80) #[] #[]]), (5, .agg #[.string ⟨#[99, 111, 110, 115, 112]⟩, .int .i64 1, .func (.func 82) #[] #[], .func (.func 76) #[] #[]]), (6, .agg #[.string ⟨#[115, 121, 109, 98, 111, 108, 112]⟩, .int .i64 1, .func (.func 83) #[] #[], .func (.func 76) #[] #[]]), (7, .agg #[.string ⟨#[115, 116, 114, 105, 110, 103, 112]⟩, .int .i64 1, .func (.func 84) #[] #[], .func (.func 76) #[] #[]]), (8, .agg #[.string ⟨#[114, 97, 116, 105, 111, 110, 97, 108, 112]⟩, .int .i64 1, .func (.func 85) #[] #[], .func (.func 76) #[] #[]]), (9, .agg #[.string ⟨#[105, 110, 116, 101, 103, 101, 114, 112]⟩, .int .i64 1, .func (.func 86) #[] #[], .func (.func 76) #[] #[]]), (10, .agg #[.string ⟨#[98, 105, 110, 97, 114, 121, 45, 43]⟩, .int .i64 2, .func (.func 87) #[] #[], .func (.func 88) #[] #[]]), (11, .agg #[.string ⟨#[98, 105, 110, 97, 114, 121, 45, 42]⟩, .int .i64 2, .func (.func 89) #[] #[], .func (.func 88) #[] #[]]), (12, .agg #[.string ⟨#[117, 110, 97, 114, 121, 45, 45]⟩, .int .i64 1, .func (.func 90) #[] #[], .func (.func 88) #[] #[]]), (13, .agg #[.string ⟨#[117, 110, 97, 114, 121, 45, 47]⟩, .int .i64 1, .func (.func 91) #[] #[], .func (.func 92) #[] #[]]), (14, .agg #[.string ⟨#[60]⟩, .int .i64 2, .func (.func 93) #[] #[], .func (.func 88) #[] #[]]), (15, .agg #[.string ⟨#[110, 117, 109, 101, 114, 97, 116, 111, 114]⟩, .int .i64 1, .func (.func 94) #[] #[], .func (.func 88) #[] #[]]), (16, .agg #[.string ⟨#[100, 101, 110, 111, 109, 105, 110, 97, 116, 111, 114]⟩, .int .i64 1, .func (.func 95) #[] #[], .func (.func 88) #[] #[]]), (17, .agg #[.string ⟨#[102, 108, 111, 111, 114]⟩, .int .i64 1, .func (.func 96) #[] #[], .func (.func 88) #[] #[]]), (18, .agg #[.string ⟨#[115, 121, 109, 98, 111, 108, 45, 110, 97, 109, 101]⟩, .int .i64 1, .func (.func 97) #[] #[], .func (.func 98) #[] #[]]), (19, .agg #[.string ⟨#[115, 121, 109, 98, 111, 108, 45, 112, 97, 99, 107, 97, 103, 101, 45, 110, 97, 109, 101]⟩, .int .i64 1, .func (.func 99) #[] #[], .func (.func 98) #[] #[]]), (20, .agg #[.string ⟨#[105, 110, 116, 101, 114, 110]⟩, .int .i64 2, .func (.func 100) #[] #[], .func (.func 101) #[] #[]]), (21, .agg #[.string ⟨#[115, 116, 114, 105, 110, 103, 45, 97, 112, 112, 101, 110, 100]⟩, .int .i64 2, .func (.func 102) #[] #[], .func (.func 101) #[] #[]]), (22, .agg #[.string ⟨#[115, 116, 114, 105, 110, 103, 45, 108, 101, 110, 103, 116, 104]⟩, .int .i64 1, .func (.func 103) #[] #[], .func (.func 101) #[] #[]]), (23, .agg #[.string ⟨#[115, 116, 114, 105, 110, 103, 45, 98, 121, 116, 101]⟩, .int .i64 2, .func (.func 104) #[] #[], .func (.func 105) #[] #[]]), (24, .agg #[.string ⟨#[98, 121, 116, 101, 45, 115, 116, 114, 105, 110, 103]⟩, .int .i64 1, .func (.func 106) #[] #[], .func (.func 107) #[] #[]])]).run Tryz.prog W = .ok tblV W := fun W => by kernel_rfl
 have hone : tblA.all (·.oneCell') = true := by kernel_rfl
 go_enter Tryz.func50, Tryz.ntmps50
 go_wp2_with ((with_reducible refine wpList_store_row ?_ 81 (.tmp 0) (.tmp 26) ?_ w.heap.size tblA ?_ ?_ _ _ (heap_alloc_new w _) ?_ ?_ hone ?_); rfl; rfl; rfl; rfl; kernel_rfl; kernel_rfl)
 refine bodyPost_ret (results_cell_row rfl _ _ w.heap.size _ _ _ _ rfl (setRow_heap _ _ _ _ _ _ (heap_alloc_new w _)) Tryz.underlying81 rfl (by kernel_rfl)) rfl ⟨rfl, ?_⟩
 exact below_setRowO (Below.alloc (Below.refl _ _) (Nat.le_refl _) _) (Nat.le_refl _) _
set_option maxHeartbeats 4000000 in
set_option maxRecDepth 100000 in
theorem lispP (s : ByteArray) (w : World) : Calls Tryz.prog 51 #[.string s] w (RetY w (.agg #[.string (BA lispB), .string s])) := by
 go_enter Tryz.func51, Tryz.ntmps51
 go_wp2_with fail
 refine bodyPost_ret (results_cell_row rfl _ _ w.heap.size _ _ _ _ rfl (heap_alloc_new w _) Tryz.underlying24 rfl (by kernel_rfl)) rfl ⟨rfl, ?_⟩
 exact Below.alloc (Below.refl _ _) (Nat.le_refl _) _
def fndI (p n : List UInt8) : Nat → List (List UInt8) → Option Nat
 | _, [] => none
 | k, x :: r => if lispB = p ∧ x = n then some k else fndI p n (k + 1) r
theorem fndI_step {p n : List UInt8} {i : Nat} (hi : i < 25) : fndI p n i (nmB.drop i) = if lispB = p ∧ nmB.getD i [] = n then some i else fndI p n (i + 1) (nmB.drop (i + 1)) := by
 have hl : i < nmB.length := hi
 rw [List.drop_eq_getElem_cons hl, fndI, List.getD_eq_getElem?_getD, List.getElem?_eq_getElem hl]
 rfl
theorem fndI_spec {p n : List UInt8} : ∀ (l : List (List UInt8)) (k i : Nat), fndI p n k l = some i → lispB = p ∧ k ≤ i ∧ i < k + l.length ∧ l.getD (i - k) [] = n
 | [], _, _, h => by cases h
 | x :: r, k, i, h => by
  unfold fndI at h
  split at h
  · rename_i hc
    injection h with h
    subst h
    refine ⟨hc.1, Nat.le_refl _, by simp, ?_⟩
    rw [Nat.sub_self]
    exact hc.2
  · obtain ⟨h1, h2, h3, h4⟩ := fndI_spec r (k + 1) i h
    refine ⟨h1, by omega, by simp only [List.length_cons]; omega, ?_⟩
    rw [show i - k = (i - (k + 1)) + 1 from by omega, List.getD_cons_succ]
    exact h4
def fndP (p n : ByteArray) : Option Nat := fndI (LA p) (LA n) 0 nmB
theorem fndP_spec {p n : ByteArray} {i : Nat} (h : fndP p n = some i) : LA p = lispB ∧ i < 25 ∧ nmB.getD i [] = LA n := by
 obtain ⟨h1, _, h3, h4⟩ := fndI_spec _ _ _ h
 exact ⟨h1.symm, by simpa [nmB] using h3, h4⟩
def Bk (W : World) (g : Nat) (x : Array Value) : Prop := W.heap[g]? = some (.cells x 66 (0, 0))
theorem Bk.lt {W : World} {g : Nat} {x : Array Value} (h : Bk W g x) : g < W.heap.size := by
 rcases Nat.lt_or_ge g W.heap.size with hlt | hge
 · exact hlt
 · unfold Bk at h; rw [Array.getElem?_eq_none hge] at h; cases h
theorem Bk.keep {W W' : World} {g : Nat} {x : Array Value} (h : Bk W g x) (hb : Below W.heap.size W W') : Bk W' g x := (hb.block g h.lt).trans h
theorem Bk.new (w : World) (x : Array Value) : Bk (w.alloc (.cells x 66)) w.heap.size x := heap_alloc_new w _
theorem Bk.c {W : World} {g : Nat} {a0 a1 a2 a3 : Value} (h : Bk W g #[a0, a1, a2, a3]) : W.cell? ⟨g, 0, none⟩ = some a0 ∧ W.cell? ⟨g, 1, none⟩ = some a1 ∧ W.cell? ⟨g, 2, none⟩ = some a2 ∧ W.cell? ⟨g, 3, none⟩ = some a3 := by
 refine ⟨?_, ?_, ?_, ?_⟩ <;> (rw [cell_of_row _ _ _ _ _ _ h]; rfl)
theorem Bk.set {W : World} {g : Nat} {x : Array Value} (h : Bk W g x) (y : Array Value) : Bk (W.setRow g y) g y := setRow_heap _ _ _ _ _ _ h
theorem Bk.store {ops : Array Oper} {rest : List Oper} {o : Oper} {a : Act} {w : World} {Q : Exit → Act → World → Prop} (x y : Operand) (ho : o.op = .store 66 x y) (hgd : o.guard = none)
 (g : Nat) (u0 u1 u2 u3 v0 v1 v2 v3 : Value) (hx : a.eval x = .pointer (some ⟨g, 0, none⟩)) (hy : a.eval y = .agg #[u0, u1, u2, u3]) (hg : Bk w g #[v0, v1, v2, v3]) (h1 : (#[u0, u1, u2, u3] : Array Value).all (·.oneCell') = true)
 (h : wpList Tryz.prog ops Q rest (a.put o.dst undef) (w.setRow g #[u0, u1, u2, u3])) : wpList Tryz.prog ops Q (o :: rest) a w :=
 wpList_store_row hgd 66 x y ho g #[u0, u1, u2, u3] hx hy 66 #[v0, v1, v2, v3] hg (by kernel_rfl) rfl h1 h
theorem Bk.run {w : World} {g : Nat} {x0 x1 x2 x3 : Value} (hg : Bk w g #[x0, x1, x2, x3]) : (loadVar 66 ⟨g, 0, none⟩).run Tryz.prog w = .ok (.agg #[x0, x1, x2, x3]) w :=
 run_loadVar_row w g 66 66 #[x0, x1, x2, x3] (0, 0) _ hg Tryz.underlying66 rfl (by kernel_rfl)
theorem retBk {fn : Func} {r0 r1 : Tmp} {tmps : Array Value} {w : World} {g : Nat} {x0 x1 x2 x3 x : Value} {Q : Ending → World → Prop} (h : fn.results = #[.cell r0 66, .tmp r1]) (h0 : tmps.getD r0 undef = .pointer (some ⟨g, 0, none⟩)) (h1 : tmps.getD r1 undef = x)
 (hg : Bk w g #[x0, x1, x2, x3]) (hQ : Q (.returned (.tuple #[.agg #[x0, x1, x2, x3], x])) w) : bodyPost Tryz.prog fn Q Exit.ret ⟨tmps, []⟩ w := by
 subst h1
 have h0' : tmps[r0]?.getD undef = .pointer (some ⟨g, 0, none⟩) := by simpa using h0
 exact bodyPost_ret (v := .tuple #[.agg #[x0, x1, x2, x3], tmps.getD r1 undef]) (by simp [results, h, h0', asAddr, hg.run]) rfl hQ
def RetFe (w : World) (r : Option Nat) (e : Ending) (w' : World) : Prop := match r with
 | some i => e = .returned (.tuple #[.agg #[.string (nmS i), .int .i64 (arI i), fV (vfI i), fV (gfI i)], .bool true]) ∧ Below w.heap.size w w'
 | none => e = .returned (.tuple #[.agg #[.string ⟨#[]⟩, .int .i64 0, .nilFunc, .nilFunc], .bool false]) ∧ Below w.heap.size w w'
theorem row_one (i : Nat) : (#[.string (nmS i), .int .i64 (arI i), fV (vfI i), fV (gfI i)] : Array Value).all (·.oneCell') = true := by simp [fV, Value.oneCell']
theorem z4_one : (#[.string ⟨#[]⟩, .int .i64 0, .nilFunc, .nilFunc] : Array Value).all (·.oneCell') = true := by simp [Value.oneCell']
theorem eqLB (l : List UInt8) (s : ByteArray) : ((BA l).toList == s.toList) = decide (l = LA s) := by
 rw [BA_toList, Lib.toList_data]
 by_cases h : l = LA s
 · rw [decide_eq_true h, beq_iff_eq]; exact h
 · rw [decide_eq_false h, beq_eq_false_iff_ne]; exact h
structure FdW (w X : World) (fp fn : ByteArray) : Prop where
 bel : Below w.heap.size w X
 s : Sy.SB X w.heap.size (.string fp) (.string fn)
 r : Bk X (w.heap.size + 1) #[.string ⟨#[]⟩, .int .i64 0, .nilFunc, .nilFunc]
theorem FdW.keep {w X X' : World} {fp fn : ByteArray} (h : FdW w X fp fn) (hb : Below X.heap.size X X') : FdW w X' fp fn := ⟨chain2 h.bel hb (Nat.le_refl _), h.s.keep hb, h.r.keep hb⟩
theorem FdW.new (w : World) (fp fn : ByteArray) : FdW w ((w.alloc (.cells #[.string fp, .string fn] 24)).alloc (.cells #[.string ⟨#[]⟩, .int .i64 0, .nilFunc, .nilFunc] 66)) fp fn := by
 have h1 : Below w.heap.size w (w.alloc (.cells #[.string fp, .string fn] 24)) := Below.alloc (Below.refl _ _) (Nat.le_refl _) _
 have h2 : Below (w.alloc (.cells #[.string fp, .string fn] 24)).heap.size (w.alloc (.cells #[.string fp, .string fn] 24)) ((w.alloc (.cells #[.string fp, .string fn] 24)).alloc (.cells #[.string ⟨#[]⟩, .int .i64 0, .nilFunc, .nilFunc] 66)) := Below.alloc (Below.refl _ _) (Nat.le_refl _) _
 refine ⟨chain2 h1 h2 (Nat.le_refl _), (Sy.SB.new w _ _).keep h2, ?_⟩
 have h3 := Bk.new (w.alloc (.cells #[.string fp, .string fn] 24)) #[.string ⟨#[]⟩, .int .i64 0, .nilFunc, .nilFunc]
 have e : (w.alloc (.cells #[.string fp, .string fn] 24)).heap.size = w.heap.size + 1 := by simp
 rw [e] at h3
 exact h3
set_option maxHeartbeats 8000000 in
set_option maxRecDepth 100000 in
theorem findP (fp fn : ByteArray) (w : World) : Calls Tryz.prog 37 #[.agg #[.string fp, .string fn]] w (RetFe w (fndP fp fn)) := by
 obtain ⟨L, hL⟩ : ∃ L, BA lispB = L := ⟨_, rfl⟩
 have CL : Hid (∀ s W, Calls Tryz.prog 51 #[.string s] W (RetY W (.agg #[.string L, .string s]))) := fun s W => by rw [← hL]; exact lispP s W
 obtain ⟨tv, htv⟩ : ∃ tv, tblV = tv := ⟨_, rfl⟩
 have CT : Hid (∀ W, Calls Tryz.prog 50 #[] W fun e w' => e = .returned tv ∧ Below W.heap.size W w') := fun W => by rw [← htv]; exact tableP W
 have HI : Hid (∀ i : Nat, i < 25 → ∀ W : World, (Instr.index 81 tv (.int .i64 (i : Int))).run Tryz.prog W = .ok (.agg #[.string (nmS i), .int .i64 (arI i), fV (vfI i), fV (gfI i)]) W) := fun i hi W => by rw [← htv]; exact tbl_row i hi W
 clear htv
 obtain ⟨R, hR⟩ : ∃ R, fndP fp fn = R := ⟨_, rfl⟩
 rw [hR]
 have hR0 : Hid (fndI (LA fp) (LA fn) 0 (nmB.drop 0) = R) := hR
 clear hR
 obtain ⟨q1, hq1⟩ : ∃ q1, (L.toList == fp.toList) = q1 := ⟨_, rfl⟩
 have HQ1 : Hid (decide (lispB = LA fp) = q1) := by rw [← hq1, ← hL]; exact (eqLB _ _).symm
 clear hL
 have F0 := FdW.new w fp fn
 go_enter Tryz.func37, Tryz.ntmps37
 go_wp2_with fail
 generalize (w.alloc (.cells #[.string fp, .string fn] 24)).alloc (.cells #[.string ⟨#[]⟩, .int .i64 0, .nilFunc, .nilFunc] 66) = W at F0 ⊢
 refine (CT.out _).mono ?_
 rintro e w1 ⟨rfl, hb⟩
 have F1 := qh9 (F0.keep hb)
 clear F0 hb CT
 go_wp2_with fail
 go_loopw [7] (fun v wr => ∃ (i : Nat), i ≤ 25 ∧ v = .int .i64 i ∧ Hid (fndI (LA fp) (LA fn) i (nmB.drop i) = R ∧ FdW w wr fp fn)) (fun v _ => 25 - (intOf v).toNat)
 case atStart => exact ⟨0, by omega, rfl, hR0.out, F1.out⟩
 case round =>
  obtain ⟨i, hi, rfl, hE⟩ := hrel
  obtain ⟨wo, rfl⟩ : ∃ wo : World, wo = wr := ⟨_, rfl⟩
  obtain ⟨hf, hF⟩ := hE.out
  have HF := qh9 hf
  have FW := qh9 hF
  clear hE F1 hR0 hf hF
  by_cases hiL : i < 25
  · have step := fndI_step (p := LA fp) (n := LA fn) hiL
    rw [HF.out] at step
    have hidx := HI.out i hiL
    obtain ⟨q2, hq2⟩ : ∃ q2, ((nmS i).toList == fn.toList) = q2 := ⟨_, rfl⟩
    have hq2' : decide (nmB.getD i [] = LA fn) = q2 := by rw [← hq2]; exact (eqLB _ _).symm
    have N0 := qh9 (Bk.new wo #[.string ⟨#[]⟩, .int .i64 0, .nilFunc, .nilFunc])
    have row1 := qh9 (row_one i)
    go_upto_region 4 with (first
     | ((with_reducible refine Bk.store (.tmp 5) (.tmp 9) ?_ ?_ wo.heap.size _ _ _ _ _ _ _ _ ?_ ?_ N0.out row1.out ?_); rfl; rfl; rfl; rfl))
    have hbx : Below wo.heap.size wo (World.setRow (wo.alloc (.cells #[.string ⟨#[]⟩, .int .i64 0, .nilFunc, .nilFunc] 66)) wo.heap.size #[.string (nmS i), .int .i64 (arI i), fV (vfI i), fV (gfI i)]) := below_setRowO (Below.alloc (Below.refl _ _) (Nat.le_refl _) _) (Nat.le_refl _) _
    have hbk : Bk (World.setRow (wo.alloc (.cells #[.string ⟨#[]⟩, .int .i64 0, .nilFunc, .nilFunc] 66)) wo.heap.size #[.string (nmS i), .int .i64 (arI i), fV (vfI i), fV (gfI i)]) wo.heap.size #[.string (nmS i), .int .i64 (arI i), fV (vfI i), fV (gfI i)] := N0.out.set _
    clear N0 hidx
    generalize World.setRow (wo.alloc (.cells #[.string ⟨#[]⟩, .int .i64 0, .nilFunc, .nilFunc] 66)) wo.heap.size #[.string (nmS i), .int .i64 (arI i), fV (vfI i), fV (gfI i)] = X at hbx hbk ⊢
    have FX : Hid (∀ X', Below X.heap.size X X' → FdW w X' fp fn) := fun X' h => (FW.out.keep hbx).keep h
    have BX : Hid (∀ X', Below X.heap.size X X' → Bk X' wo.heap.size #[.string (nmS i), .int .i64 (arI i), fV (vfI i), fV (gfI i)]) := fun X' h => hbk.keep h
    clear FW HF hbx hbk
    have hB0 : Below X.heap.size X X.drew := (Below.refl _ _).drew
    obtain ⟨z0, z1, z2, z3⟩ := Bk.c (BX.out _ hB0)
    have y0 := (FX.out _ hB0).s.c0
    have y1 := (FX.out _ hB0).s.c1
    cases q1 with
    | false =>
     have st : R = fndI (LA fp) (LA fn) (i + 1) (nmB.drop (i + 1)) := by rw [step, if_neg (fun h => of_decide_eq_false HQ1.out h.1)]
     have ST := qh9 st
     clear st step hq2'
     go_region_with (first
      | (go_at_call 51; refine (CL.out _ _).mono ?_; rintro e w3 ⟨rfl, hb3⟩; have hB3 := chain2 ‹Below X.heap.size X _› hb3 (Nat.le_refl _); obtain ⟨z0, z1, z2, z3⟩ := Bk.c (BX.out _ hB3); have y0 := (FX.out _ hB3).s.c0; have y1 := (FX.out _ hB3).s.c1))
     all_goals go_wp2_with fail
     all_goals go_roundw
     all_goals first
      | exact ⟨i + 1, by omega, by go_num, ST.out.symm, FX.out _ ‹Below X.heap.size X _›⟩
      | (simp [intOf]; omega)
    | true =>
     cases q2 with
     | false =>
      have st : R = fndI (LA fp) (LA fn) (i + 1) (nmB.drop (i + 1)) := by rw [step, if_neg (fun h => of_decide_eq_false hq2' h.2)]
      have ST := qh9 st
      clear st step hq2'
      go_region_with (first
       | (go_at_call 51; refine (CL.out _ _).mono ?_; rintro e w3 ⟨rfl, hb3⟩; have hB3 := chain2 ‹Below X.heap.size X _› hb3 (Nat.le_refl _); obtain ⟨z0, z1, z2, z3⟩ := Bk.c (BX.out _ hB3); have y0 := (FX.out _ hB3).s.c0; have y1 := (FX.out _ hB3).s.c1))
      all_goals go_wp2_with fail
      all_goals go_roundw
      all_goals first
       | exact ⟨i + 1, by omega, by go_num, ST.out.symm, FX.out _ ‹Below X.heap.size X _›⟩
       | (simp [intOf]; omega)
     | true =>
      have st : R = some i := by rw [step, if_pos ⟨of_decide_eq_true HQ1.out, of_decide_eq_true hq2'⟩]
      subst st
      clear step hq2'
      go_region_with (first
       | (go_at_call 51; refine (CL.out _ _).mono ?_; rintro e w3 ⟨rfl, hb3⟩; have hB3 := chain2 ‹Below X.heap.size X _› hb3 (Nat.le_refl _); obtain ⟨z0, z1, z2, z3⟩ := Bk.c (BX.out _ hB3); have y0 := (FX.out _ hB3).s.c0; have y1 := (FX.out _ hB3).s.c1))
      all_goals go_wp2_with ((with_reducible refine Bk.store (.tmp 2) (.tmp 15) ?_ ?_ (w.heap.size + 1) _ _ _ _ _ _ _ _ ?_ ?_ (FX.out _ ‹Below X.heap.size X _›).r row1.out ?_); rfl; rfl; rfl; rfl)
      all_goals exact retBk rfl rfl rfl ((FX.out _ ‹Below X.heap.size X _›).r.set _) ⟨rfl, below_setRowO (FX.out _ ‹Below X.heap.size X _›).bel (by omega) _⟩
  · have hiE : i = 25 := by omega
    subst hiE
    have st : R = none := HF.out.symm
    subst st
    clear HF
    go_wp2_with ((with_reducible refine Bk.store (.tmp 2) (.tmp 17) ?_ ?_ (w.heap.size + 1) _ _ _ _ _ _ _ _ ?_ ?_ FW.out.r z4_one ?_); rfl; rfl; rfl; rfl)
    exact retBk rfl rfl rfl (FW.out.r.set _) ⟨rfl, below_setRowO FW.out.bel (by omega) _⟩
set_option maxHeartbeats 4000000 in
set_option maxRecDepth 100000 in
theorem arityP (fp fn : ByteArray) (w : World) : Calls Tryz.prog 31 #[.agg #[.string fp, .string fn]] w (RetIB w (match fndP fp fn with | some i => arI i | none => 0) (fndP fp fn).isSome) := by
 have CF := findP fp fn
 generalize fndP fp fn = R at CF ⊢
 have S0 := Sy.SB.new w (.string fp) (.string fn)
 have B0 : Below w.heap.size w (w.alloc (.cells #[.string fp, .string fn] 24)) := Below.alloc (Below.refl _ _) (Nat.le_refl _) _
 cases R with
 | none =>
  show Calls _ _ _ _ (RetIB w 0 false)
  go_enter Tryz.func31, Tryz.ntmps31
  go_wp2_with fail
  generalize w.alloc (.cells #[.string fp, .string fn] 24) = W at S0 B0 ⊢
  refine (CF W).mono ?_
  rintro e w1 ⟨rfl, hb⟩
  have HW := qh9 (chain2 B0 hb (Nat.le_refl _))
  clear S0 B0 hb CF
  have N0 := qh9 (Bk.new w1 #[.string ⟨#[]⟩, .int .i64 0, .nilFunc, .nilFunc])
  go_upto_region 2 with (first
   | ((with_reducible refine Bk.store (.tmp 4) (.tmp 9) ?_ ?_ w1.heap.size _ _ _ _ _ _ _ _ ?_ ?_ N0.out z4_one ?_); rfl; rfl; rfl; rfl))
  have hbx : Below w1.heap.size w1 (World.setRow (w1.alloc (.cells #[.string ⟨#[]⟩, .int .i64 0, .nilFunc, .nilFunc] 66)) w1.heap.size #[.string ⟨#[]⟩, .int .i64 0, .nilFunc, .nilFunc]) := below_setRowO (Below.alloc (Below.refl _ _) (Nat.le_refl _) _) (Nat.le_refl _) _
  have hbk : Bk (World.setRow (w1.alloc (.cells #[.string ⟨#[]⟩, .int .i64 0, .nilFunc, .nilFunc] 66)) w1.heap.size #[.string ⟨#[]⟩, .int .i64 0, .nilFunc, .nilFunc]) w1.heap.size #[.string ⟨#[]⟩, .int .i64 0, .nilFunc, .nilFunc] := N0.out.set _
  clear N0
  generalize World.setRow (w1.alloc (.cells #[.string ⟨#[]⟩, .int .i64 0, .nilFunc, .nilFunc] 66)) w1.heap.size #[.string ⟨#[]⟩, .int .i64 0, .nilFunc, .nilFunc] = X at hbx hbk ⊢
  obtain ⟨z0, z1, z2, z3⟩ := Bk.c hbk
  replace HW := qc9 HW hbx
  clear hbx hbk z0 z2 z3
  go_wp2_with fail
  go_ret2
  exact ⟨rfl, HW.out⟩
 | some i =>
  show Calls _ _ _ _ (RetIB w (arI i) true)
  go_enter Tryz.func31, Tryz.ntmps31
  go_wp2_with fail
  generalize w.alloc (.cells #[.string fp, .string fn] 24) = W at S0 B0 ⊢
  refine (CF W).mono ?_
  rintro e w1 ⟨rfl, hb⟩
  have HW := qh9 (chain2 B0 hb (Nat.le_refl _))
  clear S0 B0 hb CF
  have N0 := qh9 (Bk.new w1 #[.string ⟨#[]⟩, .int .i64 0, .nilFunc, .nilFunc])
  go_upto_region 2 with (first
   | ((with_reducible refine Bk.store (.tmp 4) (.tmp 9) ?_ ?_ w1.heap.size _ _ _ _ _ _ _ _ ?_ ?_ N0.out (row_one i) ?_); rfl; rfl; rfl; rfl))
  have hbx : Below w1.heap.size w1 (World.setRow (w1.alloc (.cells #[.string ⟨#[]⟩, .int .i64 0, .nilFunc, .nilFunc] 66)) w1.heap.size #[.string (nmS i), .int .i64 (arI i), fV (vfI i), fV (gfI i)]) := below_setRowO (Below.alloc (Below.refl _ _) (Nat.le_refl _) _) (Nat.le_refl _) _
  have hbk : Bk (World.setRow (w1.alloc (.cells #[.string ⟨#[]⟩, .int .i64 0, .nilFunc, .nilFunc] 66)) w1.heap.size #[.string (nmS i), .int .i64 (arI i), fV (vfI i), fV (gfI i)]) w1.heap.size #[.string (nmS i), .int .i64 (arI i), fV (vfI i), fV (gfI i)] := N0.out.set _
  clear N0
  generalize World.setRow (w1.alloc (.cells #[.string ⟨#[]⟩, .int .i64 0, .nilFunc, .nilFunc] 66)) w1.heap.size #[.string (nmS i), .int .i64 (arI i), fV (vfI i), fV (gfI i)] = X at hbx hbk ⊢
  obtain ⟨z0, z1, z2, z3⟩ := Bk.c hbk
  replace HW := qc9 HW hbx
  clear hbx hbk z0 z2 z3
  go_wp2_with fail
  go_ret2
  exact ⟨rfl, HW.out⟩
theorem retEz {fn : Func} {q r : Tmp} {w0 w : World} {tmps : Array Value} {g : Nat} {n : Int} {x : Array Value} (h : fn.results = #[.cell q 27, .tmp r]) (hq : tmps.getD q undef = .pointer (some ⟨g, 0, none⟩)) (hr : tmps.getD r undef = .int .i64 n)
 (hg : Bx w g x) (hlt : w0.heap.size ≤ g) (hb : Below w0.heap.size w0 w) : bodyPost Tryz.prog fn (RetE w0 (none, n)) Exit.ret ⟨tmps, []⟩ (w.setRow g zeroC) :=
 bodyPost_ret (results_cs h tmps _ g _ hq hg.set rfl) rfl ⟨by rw [hr], below_setRowO hb hlt _⟩
theorem retEo {fn : Func} {q r : Tmp} {w0 w : World} {tmps : Array Value} {g : Nat} {o : Ob} {p : Value} {n : Int} {x : Array Value} (h : fn.results = #[.cell q 27, .tmp r]) (hq : tmps.getD q undef = .pointer (some ⟨g, 0, none⟩)) (hr : tmps.getD r undef = .int .i64 n)
 (hg : Bx w g x) (hx : x.size = 7) (hp : Hd w o p) (hlt : w0.heap.size ≤ g) (hb : Below w0.heap.size w0 w) : bodyPost Tryz.prog fn (RetE w0 (some o, n)) Exit.ret ⟨tmps, []⟩ (w.setRow g (cellsO o p).toArray) :=
 bodyPost_ret (results_cs h tmps _ g _ hq hg.set (by rw [List.size_toArray, cellsO_length])) rfl ⟨p, by rw [hr]; rfl, hp.box hg hx _, below_setRowO hb hlt _⟩
structure ApW (w X : World) (fp fn : ByteArray) : Prop where
 bel : Below w.heap.size w X
 s : Sy.SB X w.heap.size (.string fp) (.string fn)
 r : Bx X (w.heap.size + 1) #[.int .i64 0, .string ⟨#[]⟩, .string ⟨#[]⟩, .string ⟨#[]⟩, .string ⟨#[]⟩, .string ⟨#[]⟩, .slice none 0 0]
theorem ApW.keep {w X X' : World} {fp fn : ByteArray} (h : ApW w X fp fn) (hb : Below X.heap.size X X') : ApW w X' fp fn := ⟨chain2 h.bel hb (Nat.le_refl _), h.s.keep hb, h.r.keep hb⟩
theorem ApW.new (w : World) (fp fn : ByteArray) : ApW w ((w.alloc (.cells #[.string fp, .string fn] 24)).alloc (.cells #[.int .i64 0, .string ⟨#[]⟩, .string ⟨#[]⟩, .string ⟨#[]⟩, .string ⟨#[]⟩, .string ⟨#[]⟩, .slice none 0 0] 27)) fp fn := by
 have h1 : Below w.heap.size w (w.alloc (.cells #[.string fp, .string fn] 24)) := Below.alloc (Below.refl _ _) (Nat.le_refl _) _
 have h2 : Below (w.alloc (.cells #[.string fp, .string fn] 24)).heap.size (w.alloc (.cells #[.string fp, .string fn] 24)) ((w.alloc (.cells #[.string fp, .string fn] 24)).alloc (.cells #[.int .i64 0, .string ⟨#[]⟩, .string ⟨#[]⟩, .string ⟨#[]⟩, .string ⟨#[]⟩, .string ⟨#[]⟩, .slice none 0 0] 27)) := Below.alloc (Below.refl _ _) (Nat.le_refl _) _
 refine ⟨chain2 h1 h2 (Nat.le_refl _), (Sy.SB.new w _ _).keep h2, ?_⟩
 have h3 := aO_new (w.alloc (.cells #[.string fp, .string fn] 24)) #[.int .i64 0, .string ⟨#[]⟩, .string ⟨#[]⟩, .string ⟨#[]⟩, .string ⟨#[]⟩, .string ⟨#[]⟩, .slice none 0 0]
 have e : (w.alloc (.cells #[.string fp, .string fn] 24)).heap.size = w.heap.size + 1 := by simp
 rw [e] at h3
 exact h3
theorem vf_enter : ∀ (i : Nat), i < 25 → ∀ (v : Value) (w : World), (callFunc (vfI i) #[v]).run Tryz.prog w = .ok (.enter (vfI i) #[v]) w
 | 0, _, v, w => by show (callFunc 75 #[v]).run Tryz.prog w = .ok (.enter 75 #[v]) w; go_simp
 | 1, _, v, w => by show (callFunc 77 #[v]).run Tryz.prog w = .ok (.enter 77 #[v]) w; go_simp
 | 2, _, v, w => by show (callFunc 78 #[v]).run Tryz.prog w = .ok (.enter 78 #[v]) w; go_simp
 | 3, _, v, w => by show (callFunc 79 #[v]).run Tryz.prog w = .ok (.enter 79 #[v]) w; go_simp
 | 4, _, v, w => by show (callFunc 81 #[v]).run Tryz.prog w = .ok (.enter 81 #[v]) w; go_simp
 | 5, _, v, w => by show (callFunc 82 #[v]).run Tryz.prog w = .ok (.enter 82 #[v]) w; go_simp
 | 6, _, v, w => by show (callFunc 83 #[v]).run Tryz.prog w = .ok (.enter 83 #[v]) w; go_simp
 | 7, _, v, w => by show (callFunc 84 #[v]).run Tryz.prog w = .ok (.enter 84 #[v]) w; go_simp
 | 8, _, v, w => by show (callFunc 85 #[v]).run Tryz.prog w = .ok (.enter 85 #[v]) w; go_simp
 | 9, _, v, w => by show (callFunc 86 #[v]).run Tryz.prog w = .ok (.enter 86 #[v]) w; go_simp
 | 10, _, v, w => by show (callFunc 87 #[v]).run Tryz.prog w = .ok (.enter 87 #[v]) w; go_simp
 | 11, _, v, w => by show (callFunc 89 #[v]).run Tryz.prog w = .ok (.enter 89 #[v]) w; go_simp
 | 12, _, v, w => by show (callFunc 90 #[v]).run Tryz.prog w = .ok (.enter 90 #[v]) w; go_simp
 | 13, _, v, w => by show (callFunc 91 #[v]).run Tryz.prog w = .ok (.enter 91 #[v]) w; go_simp
 | 14, _, v, w => by show (callFunc 93 #[v]).run Tryz.prog w = .ok (.enter 93 #[v]) w; go_simp
 | 15, _, v, w => by show (callFunc 94 #[v]).run Tryz.prog w = .ok (.enter 94 #[v]) w; go_simp
 | 16, _, v, w => by show (callFunc 95 #[v]).run Tryz.prog w = .ok (.enter 95 #[v]) w; go_simp
 | 17, _, v, w => by show (callFunc 96 #[v]).run Tryz.prog w = .ok (.enter 96 #[v]) w; go_simp
 | 18, _, v, w => by show (callFunc 97 #[v]).run Tryz.prog w = .ok (.enter 97 #[v]) w; go_simp
 | 19, _, v, w => by show (callFunc 99 #[v]).run Tryz.prog w = .ok (.enter 99 #[v]) w; go_simp
 | 20, _, v, w => by show (callFunc 100 #[v]).run Tryz.prog w = .ok (.enter 100 #[v]) w; go_simp
 | 21, _, v, w => by show (callFunc 102 #[v]).run Tryz.prog w = .ok (.enter 102 #[v]) w; go_simp
 | 22, _, v, w => by show (callFunc 103 #[v]).run Tryz.prog w = .ok (.enter 103 #[v]) w; go_simp
 | 23, _, v, w => by show (callFunc 104 #[v]).run Tryz.prog w = .ok (.enter 104 #[v]) w; go_simp
 | 24, _, v, w => by show (callFunc 106 #[v]).run Tryz.prog w = .ok (.enter 106 #[v]) w; go_simp
 | k + 25, h, _, _ => absurd h (by omega)
theorem gf_enter : ∀ (i : Nat), i < 25 → ∀ (v : Value) (w : World), (callFunc (gfI i) #[v]).run Tryz.prog w = .ok (.enter (gfI i) #[v]) w
 | 0, _, v, w => by show (callFunc 76 #[v]).run Tryz.prog w = .ok (.enter 76 #[v]) w; go_simp
 | 1, _, v, w => by show (callFunc 76 #[v]).run Tryz.prog w = .ok (.enter 76 #[v]) w; go_simp
 | 2, _, v, w => by show (callFunc 76 #[v]).run Tryz.prog w = .ok (.enter 76 #[v]) w; go_simp
 | 3, _, v, w => by show (callFunc 80 #[v]).run Tryz.prog w = .ok (.enter 80 #[v]) w; go_simp
 | 4, _, v, w => by show (callFunc 80 #[v]).run Tryz.prog w = .ok (.enter 80 #[v]) w; go_simp
 | 5, _, v, w => by show (callFunc 76 #[v]).run Tryz.prog w = .ok (.enter 76 #[v]) w; go_simp
 | 6, _, v, w => by show (callFunc 76 #[v]).run Tryz.prog w = .ok (.enter 76 #[v]) w; go_simp
 | 7, _, v, w => by show (callFunc 76 #[v]).run Tryz.prog w = .ok (.enter 76 #[v]) w; go_simp
 | 8, _, v, w => by show (callFunc 76 #[v]).run Tryz.prog w = .ok (.enter 76 #[v]) w; go_simp
 | 9, _, v, w => by show (callFunc 76 #[v]).run Tryz.prog w = .ok (.enter 76 #[v]) w; go_simp
 | 10, _, v, w => by show (callFunc 88 #[v]).run Tryz.prog w = .ok (.enter 88 #[v]) w; go_simp
 | 11, _, v, w => by show (callFunc 88 #[v]).run Tryz.prog w = .ok (.enter 88 #[v]) w; go_simp
 | 12, _, v, w => by show (callFunc 88 #[v]).run Tryz.prog w = .ok (.enter 88 #[v]) w; go_simp
 | 13, _, v, w => by show (callFunc 92 #[v]).run Tryz.prog w = .ok (.enter 92 #[v]) w; go_simp
 | 14, _, v, w => by show (callFunc 88 #[v]).run Tryz.prog w = .ok (.enter 88 #[v]) w; go_simp
 | 15, _, v, w => by show (callFunc 88 #[v]).run Tryz.prog w = .ok (.enter 88 #[v]) w; go_simp
 | 16, _, v, w => by show (callFunc 88 #[v]).run Tryz.prog w = .ok (.enter 88 #[v]) w; go_simp
 | 17, _, v, w => by show (callFunc 88 #[v]).run Tryz.prog w = .ok (.enter 88 #[v]) w; go_simp
 | 18, _, v, w => by show (callFunc 98 #[v]).run Tryz.prog w = .ok (.enter 98 #[v]) w; go_simp
 | 19, _, v, w => by show (callFunc 98 #[v]).run Tryz.prog w = .ok (.enter 98 #[v]) w; go_simp
 | 20, _, v, w => by show (callFunc 101 #[v]).run Tryz.prog w = .ok (.enter 101 #[v]) w; go_simp
 | 21, _, v, w => by show (callFunc 101 #[v]).run Tryz.prog w = .ok (.enter 101 #[v]) w; go_simp
 | 22, _, v, w => by show (callFunc 101 #[v]).run Tryz.prog w = .ok (.enter 101 #[v]) w; go_simp
 | 23, _, v, w => by show (callFunc 105 #[v]).run Tryz.prog w = .ok (.enter 105 #[v]) w; go_simp
 | 24, _, v, w => by show (callFunc 107 #[v]).run Tryz.prog w = .ok (.enter 107 #[v]) w; go_simp
 | k + 25, h, _, _ => absurd h (by omega)
set_option maxHeartbeats 4000000 in
set_option maxRecDepth 100000 in
theorem applyP (fp fn : ByteArray) (l : List Ob) (v : Value) (w : World) (hv : Ar w l v) (ok : Bool) (ht : Tab w)
 (HV : ∀ i, fndP fp fn = some i → l.length = arB.getD i 0 → ∀ W, Below w.heap.size w W → Calls Tryz.prog (vfI i) #[v] W (RetH W (primV i l)))
 (HO : ∀ i, fndP fp fn = some i → l.length = arB.getD i 0 → ∀ W q, Hd W (primV i l) q → Tab W → Calls Tryz.prog 38 #[vO (primV i l) q] W (RetB W ok)) :
 Calls Tryz.prog 17 #[.agg #[.string fp, .string fn], v] w (RetE w (appV ok (fndP fp fn) l)) := by
 have CF := findP fp fn
 have HS := fun i (h : fndP fp fn = some i) => (fndP_spec h).2.1
 obtain ⟨R, hR⟩ : ∃ R, fndP fp fn = R := ⟨_, rfl⟩
 rw [hR] at CF HV HO HS ⊢
 clear hR
 have A0 := ApW.new w fp fn
 have HT := qh9 ht
 obtain ⟨A, c, rfl, hv1, hv2⟩ := hv
 clear hv1 hv2
 clear ht
 cases R with
 | none =>
  clear HV HO HS HT
  show Calls _ _ _ _ (RetE w (none, 7))
  go_enter Tryz.func17, Tryz.ntmps17
  go_wp2_with fail
  generalize (w.alloc (.cells #[.string fp, .string fn] 24)).alloc (.cells #[.int .i64 0, .string ⟨#[]⟩, .string ⟨#[]⟩, .string ⟨#[]⟩, .string ⟨#[]⟩, .string ⟨#[]⟩, .slice none 0 0] 27) = W at A0 ⊢
  refine (CF W).mono ?_
  rintro e w1 ⟨rfl, hb⟩
  have A1 := A0.keep hb
  clear A0 hb CF
  have N0 := qh9 (Bk.new w1 #[.string ⟨#[]⟩, .int .i64 0, .nilFunc, .nilFunc])
  go_upto_region 2 with (first
   | ((with_reducible refine Bk.store (.tmp 6) (.tmp 12) ?_ ?_ w1.heap.size _ _ _ _ _ _ _ _ ?_ ?_ N0.out z4_one ?_); rfl; rfl; rfl; rfl))
  have hbx : Below w1.heap.size w1 (World.setRow (w1.alloc (.cells #[.string ⟨#[]⟩, .int .i64 0, .nilFunc, .nilFunc] 66)) w1.heap.size #[.string ⟨#[]⟩, .int .i64 0, .nilFunc, .nilFunc]) := below_setRowO (Below.alloc (Below.refl _ _) (Nat.le_refl _) _) (Nat.le_refl _) _
  have hbk : Bk (World.setRow (w1.alloc (.cells #[.string ⟨#[]⟩, .int .i64 0, .nilFunc, .nilFunc] 66)) w1.heap.size #[.string ⟨#[]⟩, .int .i64 0, .nilFunc, .nilFunc]) w1.heap.size #[.string ⟨#[]⟩, .int .i64 0, .nilFunc, .nilFunc] := N0.out.set _
  clear N0
  generalize World.setRow (w1.alloc (.cells #[.string ⟨#[]⟩, .int .i64 0, .nilFunc, .nilFunc] 66)) w1.heap.size #[.string ⟨#[]⟩, .int .i64 0, .nilFunc, .nilFunc] = X at hbx hbk ⊢
  obtain ⟨z0, z1, z2, z3⟩ := Bk.c hbk
  have AX := qh9 (A1.keep hbx)
  clear A1 hbx hbk z0
  clear z1 z2 z3
  go_wp2_with ((with_reducible refine storeZ (g := w.heap.size + 1) (.tmp 4) (.tmp 16) ?_ ?_ ?_ ?_ AX.out.r ?_); rfl; rfl; rfl; rfl)
  exact retEz rfl rfl rfl AX.out.r (by omega) AX.out.bel
 | some i =>
  have hi := HS i rfl
  clear HS
  by_cases hn : l.length = arB.getD i 0
  · have hn2 : (((l.length : Nat) : Int) != arI i) = false := by
     rw [bne_eq_false_iff_eq]
     unfold arI
     rw [hn]
    have CV := qh9 (HV i rfl hn)
    have CO := qh9 (HO i rfl hn)
    have EN := fun W => vf_enter i hi (.slice A l.length c) W
    have e : appV ok (some i) l = if ok then (some (primV i l), 0) else (none, 2) := if_pos hn
    rw [e]
    clear e HV HO hn hi
    generalize primV i l = res at CV CO ⊢
    generalize l.length = n at *
    cases ok with
    | false =>
     show Calls _ _ _ _ (RetE w (none, 2))
     go_enter Tryz.func17, Tryz.ntmps17
     go_wp2_with fail
     generalize (w.alloc (.cells #[.string fp, .string fn] 24)).alloc (.cells #[.int .i64 0, .string ⟨#[]⟩, .string ⟨#[]⟩, .string ⟨#[]⟩, .string ⟨#[]⟩, .string ⟨#[]⟩, .slice none 0 0] 27) = W at A0 ⊢
     refine (CF W).mono ?_
     rintro e w1 ⟨rfl, hb⟩
     have A1 := A0.keep hb
     clear A0 hb CF
     have N0 := qh9 (Bk.new w1 #[.string ⟨#[]⟩, .int .i64 0, .nilFunc, .nilFunc])
     go_upto_region 2 with (first
      | ((with_reducible refine Bk.store (.tmp 6) (.tmp 12) ?_ ?_ w1.heap.size _ _ _ _ _ _ _ _ ?_ ?_ N0.out (row_one i) ?_); rfl; rfl; rfl; rfl))
     have hbx : Below w1.heap.size w1 (World.setRow (w1.alloc (.cells #[.string ⟨#[]⟩, .int .i64 0, .nilFunc, .nilFunc] 66)) w1.heap.size #[.string (nmS i), .int .i64 (arI i), fV (vfI i), fV (gfI i)]) := below_setRowO (Below.alloc (Below.refl _ _) (Nat.le_refl _) _) (Nat.le_refl _) _
     have hbk : Bk (World.setRow (w1.alloc (.cells #[.string ⟨#[]⟩, .int .i64 0, .nilFunc, .nilFunc] 66)) w1.heap.size #[.string (nmS i), .int .i64 (arI i), fV (vfI i), fV (gfI i)]) w1.heap.size #[.string (nmS i), .int .i64 (arI i), fV (vfI i), fV (gfI i)] := N0.out.set _
     clear N0
     generalize World.setRow (w1.alloc (.cells #[.string ⟨#[]⟩, .int .i64 0, .nilFunc, .nilFunc] 66)) w1.heap.size #[.string (nmS i), .int .i64 (arI i), fV (vfI i), fV (gfI i)] = X at hbx hbk ⊢
     obtain ⟨z0, z1, z2, z3⟩ := Bk.c hbk
     have AX := qh9 (A1.keep hbx)
     clear A1 hbx hbk z0
     clear z3
     unfold fV at z2
     generalize vfI i = fi at *
     go_wp2_with fail
     refine (CV.out X AX.out.bel).mono ?_
     rintro e w2 ⟨p, rfl, hp, hb⟩
     replace AX := qh9 (AX.out.keep hb)
     have KP := qh9 hp
     clear hb hp z1 z2 EN CV
     have N1 := qh9 (Bx1.new w2 #[.int .i64 0, .string ⟨#[]⟩, .string ⟨#[]⟩, .string ⟨#[]⟩, .string ⟨#[]⟩, .string ⟨#[]⟩, .slice none 0 0])
     go_upto_region 7 with (first
      | ((with_reducible refine storeB (w1 := w2) (g := w2.heap.size) (b := res) (p := p) (.tmp 8) (.tmp 26) ?_ ?_ ?_ ?_ KP.out N1.out.b0 ?_); rfl; rfl; rfl; rfl))
     have Q := Pt1.new (w := w2) (o := res) (p := p) (z := #[.int .i64 0, .string ⟨#[]⟩, .string ⟨#[]⟩, .string ⟨#[]⟩, .string ⟨#[]⟩, .string ⟨#[]⟩, .slice none 0 0])
     generalize World.setRow (w2.alloc (.cells #[.int .i64 0, .string ⟨#[]⟩, .string ⟨#[]⟩, .string ⟨#[]⟩, .string ⟨#[]⟩, .string ⟨#[]⟩, .slice none 0 0] 27)) w2.heap.size (cellsO res p).toArray = X2 at Q ⊢
     have hb := Q.bel
     replace AX := qh9 (AX.out.keep hb)
     replace KP := qh9 (KP.out.below hb)
     have B1 := qh9 Q.b0
     clear hb Q N1
     go_wp2_with ((with_reducible refine loadB (.tmp 8) ?_ ?_ ?_ B1.out ?_); rfl; rfl; rfl)
     refine (CO.out X2 p KP.out (HT.out.below AX.out.bel)).mono ?_
     rintro e w3 ⟨rfl, hb⟩
     replace AX := qh9 (AX.out.keep hb)
     replace KP := qh9 (KP.out.below hb)
     replace B1 := qh9 (B1.out.keep hb)
     clear hb CO
     go_wp2_with ((with_reducible refine storeZ (g := w.heap.size + 1) (.tmp 4) (.tmp 30) ?_ ?_ ?_ ?_ AX.out.r ?_); rfl; rfl; rfl; rfl)
     exact retEz rfl rfl rfl AX.out.r (by omega) AX.out.bel
    | true =>
     show Calls _ _ _ _ (RetE w (some res, 0))
     go_enter Tryz.func17, Tryz.ntmps17
     go_wp2_with fail
     generalize (w.alloc (.cells #[.string fp, .string fn] 24)).alloc (.cells #[.int .i64 0, .string ⟨#[]⟩, .string ⟨#[]⟩, .string ⟨#[]⟩, .string ⟨#[]⟩, .string ⟨#[]⟩, .slice none 0 0] 27) = W at A0 ⊢
     refine (CF W).mono ?_
     rintro e w1 ⟨rfl, hb⟩
     have A1 := A0.keep hb
     clear A0 hb CF
     have N0 := qh9 (Bk.new w1 #[.string ⟨#[]⟩, .int .i64 0, .nilFunc, .nilFunc])
     go_upto_region 2 with (first
      | ((with_reducible refine Bk.store (.tmp 6) (.tmp 12) ?_ ?_ w1.heap.size _ _ _ _ _ _ _ _ ?_ ?_ N0.out (row_one i) ?_); rfl; rfl; rfl; rfl))
     have hbx : Below w1.heap.size w1 (World.setRow (w1.alloc (.cells #[.string ⟨#[]⟩, .int .i64 0, .nilFunc, .nilFunc] 66)) w1.heap.size #[.string (nmS i), .int .i64 (arI i), fV (vfI i), fV (gfI i)]) := below_setRowO (Below.alloc (Below.refl _ _) (Nat.le_refl _) _) (Nat.le_refl _) _
     have hbk : Bk (World.setRow (w1.alloc (.cells #[.string ⟨#[]⟩, .int .i64 0, .nilFunc, .nilFunc] 66)) w1.heap.size #[.string (nmS i), .int .i64 (arI i), fV (vfI i), fV (gfI i)]) w1.heap.size #[.string (nmS i), .int .i64 (arI i), fV (vfI i), fV (gfI i)] := N0.out.set _
     clear N0
     generalize World.setRow (w1.alloc (.cells #[.string ⟨#[]⟩, .int .i64 0, .nilFunc, .nilFunc] 66)) w1.heap.size #[.string (nmS i), .int .i64 (arI i), fV (vfI i), fV (gfI i)] = X at hbx hbk ⊢
     obtain ⟨z0, z1, z2, z3⟩ := Bk.c hbk
     have AX := qh9 (A1.keep hbx)
     clear A1 hbx hbk z0
     clear z3
     unfold fV at z2
     generalize vfI i = fi at *
     go_wp2_with fail
     refine (CV.out X AX.out.bel).mono ?_
     rintro e w2 ⟨p, rfl, hp, hb⟩
     replace AX := qh9 (AX.out.keep hb)
     have KP := qh9 hp
     clear hb hp z1 z2 EN CV
     have N1 := qh9 (Bx1.new w2 #[.int .i64 0, .string ⟨#[]⟩, .string ⟨#[]⟩, .string ⟨#[]⟩, .string ⟨#[]⟩, .string ⟨#[]⟩, .slice none 0 0])
     go_upto_region 7 with (first
      | ((with_reducible refine storeB (w1 := w2) (g := w2.heap.size) (b := res) (p := p) (.tmp 8) (.tmp 26) ?_ ?_ ?_ ?_ KP.out N1.out.b0 ?_); rfl; rfl; rfl; rfl))
     have Q := Pt1.new (w := w2) (o := res) (p := p) (z := #[.int .i64 0, .string ⟨#[]⟩, .string ⟨#[]⟩, .string ⟨#[]⟩, .string ⟨#[]⟩, .string ⟨#[]⟩, .slice none 0 0])
     generalize World.setRow (w2.alloc (.cells #[.int .i64 0, .string ⟨#[]⟩, .string ⟨#[]⟩, .string ⟨#[]⟩, .string ⟨#[]⟩, .string ⟨#[]⟩, .slice none 0 0] 27)) w2.heap.size (cellsO res p).toArray = X2 at Q ⊢
     have hb := Q.bel
     replace AX := qh9 (AX.out.keep hb)
     replace KP := qh9 (KP.out.below hb)
     have B1 := qh9 Q.b0
     clear hb Q N1
     go_wp2_with ((with_reducible refine loadB (.tmp 8) ?_ ?_ ?_ B1.out ?_); rfl; rfl; rfl)
     refine (CO.out X2 p KP.out (HT.out.below AX.out.bel)).mono ?_
     rintro e w3 ⟨rfl, hb⟩
     replace AX := qh9 (AX.out.keep hb)
     replace KP := qh9 (KP.out.below hb)
     replace B1 := qh9 (B1.out.keep hb)
     clear hb CO
     go_wp2_with (first | ((with_reducible refine loadB (.tmp 8) ?_ ?_ ?_ B1.out ?_); rfl; rfl; rfl) | ((with_reducible refine storeB (w1 := w3) (g := w.heap.size + 1) (b := res) (p := p) (.tmp 4) (.tmp 31) ?_ ?_ ?_ ?_ KP.out AX.out.r ?_); rfl; rfl; rfl; rfl))
     exact retEo rfl rfl rfl AX.out.r rfl KP.out (by omega) AX.out.bel
  · have hn2 : (((l.length : Nat) : Int) != arI i) = true := by
     rw [bne_iff_ne]
     unfold arI
     intro h
     exact hn (by exact_mod_cast h)
    have e : appV ok (some i) l = (none, 5) := if_neg hn
    rw [e]
    clear e HV HO hn hi HT
    generalize l.length = n at *
    go_enter Tryz.func17, Tryz.ntmps17
    go_wp2_with fail
    generalize (w.alloc (.cells #[.string fp, .string fn] 24)).alloc (.cells #[.int .i64 0, .string ⟨#[]⟩, .string ⟨#[]⟩, .string ⟨#[]⟩, .string ⟨#[]⟩, .string ⟨#[]⟩, .slice none 0 0] 27) = W at A0 ⊢
    refine (CF W).mono ?_
    rintro e w1 ⟨rfl, hb⟩
    have A1 := A0.keep hb
    clear A0 hb CF
    have N0 := qh9 (Bk.new w1 #[.string ⟨#[]⟩, .int .i64 0, .nilFunc, .nilFunc])
    go_upto_region 2 with (first
     | ((with_reducible refine Bk.store (.tmp 6) (.tmp 12) ?_ ?_ w1.heap.size _ _ _ _ _ _ _ _ ?_ ?_ N0.out (row_one i) ?_); rfl; rfl; rfl; rfl))
    have hbx : Below w1.heap.size w1 (World.setRow (w1.alloc (.cells #[.string ⟨#[]⟩, .int .i64 0, .nilFunc, .nilFunc] 66)) w1.heap.size #[.string (nmS i), .int .i64 (arI i), fV (vfI i), fV (gfI i)]) := below_setRowO (Below.alloc (Below.refl _ _) (Nat.le_refl _) _) (Nat.le_refl _) _
    have hbk : Bk (World.setRow (w1.alloc (.cells #[.string ⟨#[]⟩, .int .i64 0, .nilFunc, .nilFunc] 66)) w1.heap.size #[.string (nmS i), .int .i64 (arI i), fV (vfI i), fV (gfI i)]) w1.heap.size #[.string (nmS i), .int .i64 (arI i), fV (vfI i), fV (gfI i)] := N0.out.set _
    clear N0
    generalize World.setRow (w1.alloc (.cells #[.string ⟨#[]⟩, .int .i64 0, .nilFunc, .nilFunc] 66)) w1.heap.size #[.string (nmS i), .int .i64 (arI i), fV (vfI i), fV (gfI i)] = X at hbx hbk ⊢
    obtain ⟨z0, z1, z2, z3⟩ := Bk.c hbk
    have AX := qh9 (A1.keep hbx)
    clear A1 hbx hbk z0
    clear z2 z3
    go_wp2_with ((with_reducible refine storeZ (g := w.heap.size + 1) (.tmp 4) (.tmp 22) ?_ ?_ ?_ ?_ AX.out.r ?_); rfl; rfl; rfl; rfl)
    exact retEz rfl rfl rfl AX.out.r (by omega) AX.out.bel
set_option maxHeartbeats 4000000 in
set_option maxRecDepth 100000 in
theorem guardP (fp fn : ByteArray) (l : List Ob) (v : Value) (w : World) (hv : Ar w l v)
 (HG : ∀ i, fndP fp fn = some i → l.length = arB.getD i 0 → ∀ W, Below w.heap.size w W → Calls Tryz.prog (gfI i) #[v] W (RetB W (guardV i l))) :
 Calls Tryz.prog 32 #[.agg #[.string fp, .string fn], v] w (RetB w (grdV (fndP fp fn) l)) := by
 have CF := findP fp fn
 have HS := fun i (h : fndP fp fn = some i) => (fndP_spec h).2.1
 obtain ⟨R, hR⟩ : ∃ R, fndP fp fn = R := ⟨_, rfl⟩
 rw [hR] at CF HG HS ⊢
 clear hR
 have B0 : Below w.heap.size w (w.alloc (.cells #[.string fp, .string fn] 24)) := Below.alloc (Below.refl _ _) (Nat.le_refl _) _
 obtain ⟨A, c, rfl, hv1, hv2⟩ := hv
 clear hv1 hv2
 cases R with
 | none =>
  clear HG HS
  show Calls _ _ _ _ (RetB w false)
  go_enter Tryz.func32, Tryz.ntmps32
  go_wp2_with fail
  generalize w.alloc (.cells #[.string fp, .string fn] 24) = W at B0 ⊢
  refine (CF W).mono ?_
  rintro e w1 ⟨rfl, hb⟩
  have HW := qh9 (chain2 B0 hb (Nat.le_refl _))
  clear B0 hb CF
  have N0 := qh9 (Bk.new w1 #[.string ⟨#[]⟩, .int .i64 0, .nilFunc, .nilFunc])
  go_upto_region 2 with (first
   | ((with_reducible refine Bk.store (.tmp 5) (.tmp 10) ?_ ?_ w1.heap.size _ _ _ _ _ _ _ _ ?_ ?_ N0.out z4_one ?_); rfl; rfl; rfl; rfl))
  have hbx : Below w1.heap.size w1 (World.setRow (w1.alloc (.cells #[.string ⟨#[]⟩, .int .i64 0, .nilFunc, .nilFunc] 66)) w1.heap.size #[.string ⟨#[]⟩, .int .i64 0, .nilFunc, .nilFunc]) := below_setRowO (Below.alloc (Below.refl _ _) (Nat.le_refl _) _) (Nat.le_refl _) _
  have hbk : Bk (World.setRow (w1.alloc (.cells #[.string ⟨#[]⟩, .int .i64 0, .nilFunc, .nilFunc] 66)) w1.heap.size #[.string ⟨#[]⟩, .int .i64 0, .nilFunc, .nilFunc]) w1.heap.size #[.string ⟨#[]⟩, .int .i64 0, .nilFunc, .nilFunc] := N0.out.set _
  clear N0
  generalize World.setRow (w1.alloc (.cells #[.string ⟨#[]⟩, .int .i64 0, .nilFunc, .nilFunc] 66)) w1.heap.size #[.string ⟨#[]⟩, .int .i64 0, .nilFunc, .nilFunc] = X at hbx hbk ⊢
  obtain ⟨z0, z1, z2, z3⟩ := Bk.c hbk
  replace HW := qc9 HW hbx
  clear hbx hbk z0 z2
  clear z1 z3
  go_wp2
  go_ret
  exact ⟨rfl, HW.out⟩
 | some i =>
  have hi := HS i rfl
  clear HS
  by_cases hn : l.length = arB.getD i 0
  · have hn2 : (((l.length : Nat) : Int) == arI i) = true := by
     rw [beq_iff_eq]
     unfold arI
     rw [hn]
    have CV := qh9 (HG i rfl hn)
    have EN := fun W => gf_enter i hi (.slice A l.length c) W
    have e : grdV (some i) l = guardV i l := by show (decide _ && _) = _; rw [decide_eq_true hn, Bool.true_and]
    rw [e]
    clear e HG hn hi
    generalize guardV i l = res at CV ⊢
    generalize l.length = n at *
    go_enter Tryz.func32, Tryz.ntmps32
    go_wp2_with fail
    generalize w.alloc (.cells #[.string fp, .string fn] 24) = W at B0 ⊢
    refine (CF W).mono ?_
    rintro e w1 ⟨rfl, hb⟩
    have HW := qh9 (chain2 B0 hb (Nat.le_refl _))
    clear B0 hb CF
    have N0 := qh9 (Bk.new w1 #[.string ⟨#[]⟩, .int .i64 0, .nilFunc, .nilFunc])
    go_upto_region 2 with (first
     | ((with_reducible refine Bk.store (.tmp 5) (.tmp 10) ?_ ?_ w1.heap.size _ _ _ _ _ _ _ _ ?_ ?_ N0.out (row_one i) ?_); rfl; rfl; rfl; rfl))
    have hbx : Below w1.heap.size w1 (World.setRow (w1.alloc (.cells #[.string ⟨#[]⟩, .int .i64 0, .nilFunc, .nilFunc] 66)) w1.heap.size #[.string (nmS i), .int .i64 (arI i), fV (vfI i), fV (gfI i)]) := below_setRowO (Below.alloc (Below.refl _ _) (Nat.le_refl _) _) (Nat.le_refl _) _
    have hbk : Bk (World.setRow (w1.alloc (.cells #[.string ⟨#[]⟩, .int .i64 0, .nilFunc, .nilFunc] 66)) w1.heap.size #[.string (nmS i), .int .i64 (arI i), fV (vfI i), fV (gfI i)]) w1.heap.size #[.string (nmS i), .int .i64 (arI i), fV (vfI i), fV (gfI i)] := N0.out.set _
    clear N0
    generalize World.setRow (w1.alloc (.cells #[.string ⟨#[]⟩, .int .i64 0, .nilFunc, .nilFunc] 66)) w1.heap.size #[.string (nmS i), .int .i64 (arI i), fV (vfI i), fV (gfI i)] = X at hbx hbk ⊢
    obtain ⟨z0, z1, z2, z3⟩ := Bk.c hbk
    replace HW := qc9 HW hbx
    clear hbx hbk z0 z2
    unfold fV at z3
    generalize gfI i = fi at *
    go_wp2_with fail
    refine (CV.out X HW.out).mono ?_
    rintro e w2 ⟨rfl, hb⟩
    replace HW := qc9 HW hb
    go_wp2
    go_ret
    exact ⟨rfl, HW.out⟩
  · have hn2 : (((l.length : Nat) : Int) == arI i) = false := by
     rw [beq_eq_false_iff_ne]
     unfold arI
     intro h
     exact hn (by exact_mod_cast h)
    have e : grdV (some i) l = false := by show (decide _ && _) = _; rw [decide_eq_false hn, Bool.false_and]
    rw [e]
    clear e HG hn hi
    generalize l.length = n at *
    go_enter Tryz.func32, Tryz.ntmps32
    go_wp2_with fail
    generalize w.alloc (.cells #[.string fp, .string fn] 24) = W at B0 ⊢
    refine (CF W).mono ?_
    rintro e w1 ⟨rfl, hb⟩
    have HW := qh9 (chain2 B0 hb (Nat.le_refl _))
    clear B0 hb CF
    have N0 := qh9 (Bk.new w1 #[.string ⟨#[]⟩, .int .i64 0, .nilFunc, .nilFunc])
    go_upto_region 2 with (first
     | ((with_reducible refine Bk.store (.tmp 5) (.tmp 10) ?_ ?_ w1.heap.size _ _ _ _ _ _ _ _ ?_ ?_ N0.out (row_one i) ?_); rfl; rfl; rfl; rfl))
    have hbx : Below w1.heap.size w1 (World.setRow (w1.alloc (.cells #[.string ⟨#[]⟩, .int .i64 0, .nilFunc, .nilFunc] 66)) w1.heap.size #[.string (nmS i), .int .i64 (arI i), fV (vfI i), fV (gfI i)]) := below_setRowO (Below.alloc (Below.refl _ _) (Nat.le_refl _) _) (Nat.le_refl _) _
    have hbk : Bk (World.setRow (w1.alloc (.cells #[.string ⟨#[]⟩, .int .i64 0, .nilFunc, .nilFunc] 66)) w1.heap.size #[.string (nmS i), .int .i64 (arI i), fV (vfI i), fV (gfI i)]) w1.heap.size #[.string (nmS i), .int .i64 (arI i), fV (vfI i), fV (gfI i)] := N0.out.set _
    clear N0
    generalize World.setRow (w1.alloc (.cells #[.string ⟨#[]⟩, .int .i64 0, .nilFunc, .nilFunc] 66)) w1.heap.size #[.string (nmS i), .int .i64 (arI i), fV (vfI i), fV (gfI i)] = X at hbx hbk ⊢
    obtain ⟨z0, z1, z2, z3⟩ := Bk.c hbk
    replace HW := qc9 HW hbx
    clear hbx hbk z0 z2
    clear z3
    go_wp2
    go_ret
    exact ⟨rfl, HW.out⟩
def rwA : Array Value := #[.string ⟨#[105, 102]⟩, .int .i64 3, .string ⟨#[101, 113, 117, 97, 108]⟩, .int .i64 2, .string ⟨#[99, 111, 110, 115]⟩, .int .i64 2, .string ⟨#[99, 97, 114]⟩, .int .i64 1, .string ⟨#[99, 100, 114]⟩, .int .i64 1, .string ⟨#[99, 111, 110, 115, 112]⟩, .int .i64 1, .string ⟨#[115, 121, 109, 98, 111, 108, 112]⟩, .int .i64 1, .string ⟨#[115, 116, 114, 105, 110, 103, 112]⟩, .int .i64 1, .string ⟨#[114, 97, 116, 105, 111, 110, 97, 108, 112]⟩, .int .i64 1, .string ⟨#[105, 110, 116, 101, 103, 101, 114, 112]⟩, .int .i64 1, .string ⟨#[98, 105, 110, 97, 114, 121, 45, 43]⟩, .int .i64 2, .string ⟨#[98, 105, 110, 97, 114, 121, 45, 42]⟩, .int .i64 2, .string ⟨#[117, 110, 97, 114, 121, 45, 45]⟩, .int .i64 1, .string ⟨#[117, 110, 97, 114, 121, 45, 47]⟩, .int .i64 1, .string ⟨#[60]⟩, .int .i64 2, .string ⟨#[110, 117, 109, 101, 114, 97, 116, 111, 114]⟩, .int .i64 1, .string ⟨#[100, 101, 110, 111, 109, 105, 110, 97, 116, 111, 114]⟩, .int .i64 1, .string ⟨#[102, 108, 111, 111, 114]⟩, .int .i64 1, .string ⟨#[115, 121, 109, 98, 111, 108, 45, 110, 97, 109, 101]⟩, .int .i64 1, .string ⟨#[115, 121, 109, 98, 111, 108, 45, 112, 97, 99, 107, 97, 103, 101, 45, 110, 97, 109, 101]⟩, .int .i64 1, .string ⟨#[105, 110, 116, 101, 114, 110]⟩, .int .i64 2, .string ⟨#[115, 116, 114, 105, 110, 103, 45, 97, 112, 112, 101, 110, 100]⟩, .int .i64 2, .string ⟨#[115, 116, 114, 105, 110, 103, 45, 108, 101, 110, 103, 116, 104]⟩, .int .i64 1, .string ⟨#[115, 116, 114, 105, 110, 103, 45, 98, 121, 116, 101]⟩, .int .i64 2, .string ⟨#[98, 121, 116, 101, 45, 115, 116, 114, 105, 110, 103]⟩, .int .i64 1]
theorem rwA_row : ∀ (i : Nat), i < 25 → rwA[i * 2]? = some (.string (nmS i)) ∧ rwA[i * 2 + 1]? = some (.int .i64 (arI i))
 | 0, _ => ⟨rfl, rfl⟩
 | 1, _ => ⟨rfl, rfl⟩
 | 2, _ => ⟨rfl, rfl⟩
 | 3, _ => ⟨rfl, rfl⟩
 | 4, _ => ⟨rfl, rfl⟩
 | 5, _ => ⟨rfl, rfl⟩
 | 6, _ => ⟨rfl, rfl⟩
 | 7, _ => ⟨rfl, rfl⟩
 | 8, _ => ⟨rfl, rfl⟩
 | 9, _ => ⟨rfl, rfl⟩
 | 10, _ => ⟨rfl, rfl⟩
 | 11, _ => ⟨rfl, rfl⟩
 | 12, _ => ⟨rfl, rfl⟩
 | 13, _ => ⟨rfl, rfl⟩
 | 14, _ => ⟨rfl, rfl⟩
 | 15, _ => ⟨rfl, rfl⟩
 | 16, _ => ⟨rfl, rfl⟩
 | 17, _ => ⟨rfl, rfl⟩
 | 18, _ => ⟨rfl, rfl⟩
 | 19, _ => ⟨rfl, rfl⟩
 | 20, _ => ⟨rfl, rfl⟩
 | 21, _ => ⟨rfl, rfl⟩
 | 22, _ => ⟨rfl, rfl⟩
 | 23, _ => ⟨rfl, rfl⟩
 | 24, _ => ⟨rfl, rfl⟩
 | k + 25, h => absurd h (by omega)
def Rw7 (w : World) (g : Nat) : Prop := w.heap[g]? = some (.cells rwA 77 (0, 0))
theorem Rw7.keep {w w' : World} {g : Nat} (h : Rw7 w g) (hb : Below w.heap.size w w') : Rw7 w' g := (hb.block g (by
 rcases Nat.lt_or_ge g w.heap.size with hlt | hge
 · exact hlt
 · unfold Rw7 at h; rw [Array.getElem?_eq_none hge] at h; cases h)).trans h
theorem Rw7.c {w : World} {g i : Nat} (h : Rw7 w g) (hi : i < 25) : w.cell? ⟨g, 0 + i * 2, none⟩ = some (.string (nmS i)) ∧ w.cell? ⟨g, 0 + i * 2 + 1, none⟩ = some (.int .i64 (arI i)) := by
 obtain ⟨h1, h2⟩ := rwA_row i hi
 rw [cell_of_row _ _ _ _ _ _ h, cell_of_row _ _ _ _ _ _ h, Nat.zero_add]
 exact ⟨h1, h2⟩
set_option maxHeartbeats 4000000 in
set_option maxRecDepth 100000 in
theorem rowsR (w : World) : Calls Tryz.prog 44 #[] w fun e w' => ∃ g, e = .returned (.slice (some ⟨g, 0, none⟩) 25 25) ∧ Rw7 w' g ∧ w.heap.size ≤ g ∧ Below w.heap.size w w' := by
 have hbuild : ∀ W : World, (Instr.buildSlice 74 25 #[(0, .agg #[.string ⟨#[105, 102]⟩, .int .i64 3]), (1, .agg #[.string ⟨#[101, 113, 117, 97, 108]⟩, .int .i64 2]), (2, .agg #[.string ⟨#[99, 111, 110, 115]⟩, .int .i64 2]), (3, .agg #[.string ⟨#[99, 97, 114]⟩, .int .i64 1]), (4, .agg #[.string ⟨#[99, 100, 114]⟩, .int .i64 1]), (5, .agg #[.string ⟨#[99, 111, 110, 115, 112]⟩, .int .i64 1]), (6, .agg #[.string ⟨#[115, 121, 109, 98, 111, 108, 112]⟩, .int .i64 1]), (7, .agg #[.string ⟨#[115, 116, 114, 105, 110, 103, 112]⟩, .int .i64 1]), (8, .agg #[.string ⟨#[114, 97, 116, 105, 111, 110, 97, 108, 112]⟩, .int .i64 1]), (9, .agg #[.string ⟨#[105, 110, 116, 101, 103, 101, 114, 112]⟩, .int .i64 1]), (10, .agg #[.string ⟨#[98, 105, 110, 97, 114, 121, 45, 43]⟩, .int .i64 2]), (11, .agg #[.string ⟨#[98, 105, 110, 97, 114, 121, 45, 42]⟩, .int .i64 2]), (12, .agg #[.string ⟨#[117, 110, 97, 114, 121, 45, 45]⟩, .int .i64 1]), (13, .agg #[.string ⟨#[117, 110, 97, 114, 121, 45, 47]⟩, .int .i64 1]), (14, .agg #[.string ⟨#[60]⟩, .int .i64 2]), (15, .agg #[.string ⟨#[110, 117, 109, 101, 114, 97, 116, 111, 114]⟩, .int .i64 1]), (16, .agg #[.string ⟨#[100, 101, 110, 111, 109, 105, 110, 97, 116, 111, 114]⟩, .int .i64 1]), (17, .agg #[.string ⟨#[102, 108, 111, 111, 114]⟩, .int .i64 1]), (18, .agg #[.string ⟨#[115, 121, 109, 98, 111, 108, 45, 110, 97, 109, 101]⟩, .int .i64 1]), (19, .agg #[.string ⟨#[115, 121, 109, 98, 111, 108, 45, 112, 97, 99, 107, 97, 103, 101, 45, 110, 97, 109, 101]⟩, .int .i64 1]), (20, .agg #[.string ⟨#[105, 110, 116, 101, 114, 110]⟩, .int .i64 2]), (21, .agg #[.string ⟨#[115, 116, 114, 105, 110, 103, 45, 97, 112, 112, 101, 110, 100]⟩, .int .i64 2]), (22, .agg #[.string ⟨#[115, 116, 114, 105, 110, 103, 45, 108, 101, 110, 103, 116, 104]⟩, .int .i64 1]), (23, .agg #[.string ⟨#[115, 116, 114, 105, 110, 103, 45, 98, 121, 116, 101]⟩, .int .i64 2]), (24, .agg #[.string ⟨#[98, 121, 116, 101, 45, 115, 116, 114, 105, 110, 103]⟩, .int .i64 1])]).run Tryz.prog W = .ok (.slice (some ⟨W.heap.size, 0, none⟩) 25 25) (W.alloc (.cells rwA 77)) := fun W => by kernel_rfl
 go_enter Tryz.func44, Tryz.ntmps44
 go_wp2_with fail
 go_ret
 exact ⟨_, rfl, heap_alloc_new _ _, Nat.le_refl _, Below.alloc (Below.refl _ _) (Nat.le_refl _) _⟩
theorem fndI_ne {p n : List UInt8} (h : lispB ≠ p) : ∀ (l : List (List UInt8)) (k : Nat), fndI p n k l = none
 | [], _ => rfl
 | x :: r, k => by
  unfold fndI
  rw [if_neg (fun c => h c.1)]
  exact fndI_ne h r (k + 1)
set_option maxHeartbeats 4000000 in
set_option maxRecDepth 100000 in
theorem arityR (fp fn : ByteArray) (w : World) : Calls Tryz.prog 24 #[.agg #[.string fp, .string fn]] w (RetIB w (match fndP fp fn with | some i => arI i | none => 0) (fndP fp fn).isSome) := by
 obtain ⟨R, hR⟩ : ∃ R, fndP fp fn = R := ⟨_, rfl⟩
 rw [hR]
 have hR0 : Hid (fndI (LA fp) (LA fn) 0 (nmB.drop 0) = R) := hR
 clear hR
 have S0 := Sy.SB.new w (.string fp) (.string fn)
 have B0 : Below w.heap.size w (w.alloc (.cells #[.string fp, .string fn] 24)) := Below.alloc (Below.refl _ _) (Nat.le_refl _) _
 by_cases hp : lispB = LA fp
 · have hq : (fp.toList == [108, 105, 115, 112]) = true := by rw [Lib.toList_data, beq_iff_eq]; exact hp.symm
   have hq2 : (fp.toList != [108, 105, 115, 112]) = false := by rw [bne, hq]; rfl
   have hq3 : fp.toList = [108, 105, 115, 112] := by simpa using hq
   clear hq
   go_enter Tryz.func24, Tryz.ntmps24
   go_upto_region 1 with fail
   generalize w.alloc (.cells #[.string fp, .string fn] 24) = W at S0 B0 ⊢
   have l0 := S0.c0
   go_wp2_with fail
   refine (rowsR W).mono ?_
   rintro e w1 ⟨g, rfl, hg, hg0, hb⟩
   have HF : Hid (Below w.heap.size w w1 ∧ Sy.SB w1 w.heap.size (.string fp) (.string fn) ∧ Rw7 w1 g) := ⟨chain2 B0 hb (Nat.le_refl _), S0.keep hb, hg⟩
   clear hg hb l0 S0 B0
   go_wp2_with fail
   go_loopw [5] (fun v wr => ∃ (i : Nat), i ≤ 25 ∧ v = .int .i64 i ∧ Hid (fndI (LA fp) (LA fn) i (nmB.drop i) = R) ∧ Hid (Below w.heap.size w wr ∧ Sy.SB wr w.heap.size (.string fp) (.string fn) ∧ Rw7 wr g)) (fun v _ => 25 - (intOf v).toNat)
   case atStart => exact ⟨0, by omega, rfl, hR0, HF⟩
   case round =>
    obtain ⟨i, hi, rfl, hf, hE⟩ := hrel
    obtain ⟨wo, rfl⟩ : ∃ wo : World, wo = wr := ⟨_, rfl⟩
    clear HF hR0
    by_cases hiL : i < 25
    · have step := fndI_step (p := LA fp) (n := LA fn) hiL
      rw [hf.out] at step
      obtain ⟨k0, k1⟩ := hE.out.2.2.c hiL
      rw [Nat.zero_add] at k0 k1
      have l1 := hE.out.2.1.c1
      have hi1 : (0 : Int) ≤ (i : Int) := by omega
      have hi2 : (i : Int) < 25 := by omega
      have hq2' : decide (nmB.getD i [] = LA fn) = ((nmS i).toList == fn.toList) := (eqLB _ _).symm
      cases hq4 : ((nmS i).toList == fn.toList) with
      | false =>
       rw [hq4] at hq2'
       have st : R = fndI (LA fp) (LA fn) (i + 1) (nmB.drop (i + 1)) := by rw [step, if_neg (fun h => of_decide_eq_false hq2' h.2)]
       have ST := qh9 st
       clear st step hq2'
       go_wp2_with fail
       go_quiet (fail)
       go_wp2_with fail
       go_roundw
       case rel => exact ⟨i + 1, by omega, by go_num, ST.out.symm, ⟨hE.out.1.trans ((belowN _ _).mono hE.out.1.size), hE.out.2.1.keep (belowN _ _), hE.out.2.2.keep (belowN _ _)⟩⟩
       case measure => simp [intOf]; omega
      | true =>
       rw [hq4] at hq2'
       have st : R = some i := by rw [step, if_pos ⟨hp, of_decide_eq_true hq2'⟩]
       subst st
       clear step hq2'
       go_wp2_with fail
       go_quiet (fail)
       go_wp2_with fail
       go_ret2
       exact ⟨rfl, hE.out.1.trans ((belowN _ _).mono hE.out.1.size)⟩
    · have hiE : i = 25 := by omega
      subst hiE
      have st : R = none := hf.out.symm
      subst st
      go_wp2_with fail
      go_ret2
      exact ⟨rfl, hE.out.1⟩
 · have hq : (fp.toList == [108, 105, 115, 112]) = false := by rw [Lib.toList_data, beq_eq_false_iff_ne]; exact fun h => hp h.symm
   have st : R = none := hR0.out.symm.trans (fndI_ne hp _ _)
   subst st
   clear hR0
   go_enter Tryz.func24, Tryz.ntmps24
   go_upto_region 1 with fail
   generalize w.alloc (.cells #[.string fp, .string fn] 24) = W at S0 B0 ⊢
   have l0 := S0.c0
   go_wp2_with fail
   go_ret2
   exact ⟨rfl, B0⟩
def RetV (w : World) (v : Value) (e : Ending) (w' : World) : Prop := e = .returned v ∧ Below w.heap.size w w'
theorem RetS.lit {w w' : World} {x : Int} {e : Ending} {l : List UInt8} (h : RetS w x e w') (hx : text x = l) : RetV w (.string ⟨l.toArray⟩) e w' := by
 subst hx; exact h
theorem RetSS.lit {w w' : World} {x y : Int} {e : Ending} {l m : List UInt8} (h : RetSS w x y e w') (hx : text x = l) (hy : text y = m) : RetV w (.tuple #[.string ⟨l.toArray⟩, .string ⟨m.toArray⟩]) e w' := by
 subst hx hy; exact h

theorem c1 (w : World) : Calls Tryz.prog 141 #[.string ⟨#[45, 55]⟩, .string ⟨#[50]⟩] w (RetV w (.tuple #[.string ⟨#[45, 52]⟩, .string ⟨#[49]⟩])) :=
 (divide_any ⟨#[45, 55]⟩ ⟨#[50]⟩ w (by decide) (by decide) (by decide)).mono fun e w' h => RetSS.lit (l := [45, 52]) (m := [49]) h (by decide) (by decide)
theorem c2 (w : World) : Calls Tryz.prog 190 #[.string ⟨#[54]⟩, .string ⟨#[45, 52]⟩] w (RetV w (.tuple #[.string ⟨#[45, 51]⟩, .string ⟨#[50]⟩])) :=
 (reduce_pos ⟨#[54]⟩ ⟨#[45, 52]⟩ w (by decide) (by decide) (by decide)).mono fun e w' h => RetSS.lit (l := [45, 51]) (m := [50]) h (by decide) (by decide)
theorem c3 (w : World) : Calls Tryz.prog 166 #[.string ⟨#[57, 57, 57]⟩, .string ⟨#[50]⟩] w (RetV w (.string ⟨#[49, 48, 48, 49]⟩)) :=
 (add_any ⟨#[57, 57, 57]⟩ ⟨#[50]⟩ w (by decide) (by decide)).mono fun e w' h => RetS.lit (l := [49, 48, 48, 49]) h (by decide)
theorem c4 (w : World) : Calls Tryz.prog 167 #[.string ⟨#[45, 49, 50]⟩, .string ⟨#[49, 50]⟩] w (RetV w (.string ⟨#[45, 49, 52, 52]⟩)) :=
 (multiply_any ⟨#[45, 49, 50]⟩ ⟨#[49, 50]⟩ w (by decide) (by decide)).mono fun e w' h => RetS.lit (l := [45, 49, 52, 52]) h (by decide)
theorem c5 (w : World) : Calls Tryz.prog 177 #[.string ⟨#[48]⟩] w fun e w' => e = .returned (.bool true) ∧ w = w' :=
 (valid_any ⟨#[48]⟩ w (by decide)).mono fun e w' h => ⟨h.1.trans (ret_bool (by decide)), h.2⟩
theorem c6 (w : World) : Calls Tryz.prog 169 #[.int .i64 5] w fun e w' => e = .returned (.string ⟨#[53]⟩) ∧ w = w' :=
 (fromInt5 w).mono fun e w' h => ⟨h.1.trans (ret_string (show BA (text 5) = BA [53] by rw [show text 5 = [53] by decide])), h.2⟩
def isSmall (l : List UInt8) : Bool := decide ((body l).length ≤ 9)
def smallVal (l : List UInt8) : Int := if isSmall l then val l else 0

def RetNB (w : World) (x : Int) (b : Bool) (e : Ending) (w' : World) : Prop := e = .returned (.tuple #[.int .i64 x, .bool b]) ∧ Below w.heap.size w w'
theorem small_len {l : List UInt8} : isSmall l = decide ((digs (mag l)).length ≤ 9) := by
 unfold isSmall
 rw [body_len]
 by_cases h0 : mag l = 0
 · rw [if_pos h0, h0]; rfl
 · rw [if_neg h0]
theorem tail_lt {n k : Nat} (hn : (digs n).length ≤ 9) : ofD ((digs n).drop k) < 1000000000 := by
 have h1 := ofD_lt ((allDig_digs n).drop k)
 have h2 : ((digs n).drop k).length ≤ 9 := by rw [List.length_drop]; omega
 have h3 : 10 ^ ((digs n).drop k).length ≤ 10 ^ 9 := Nat.pow_le_pow_right (by decide) h2
 omega

set_option maxHeartbeats 2000000 in
set_option maxRecDepth 100000 in
theorem smallR (s : ByteArray) (w : World) (hs : s.size ≤ 400000000) :
 Calls Tryz.prog 120 #[.string s] w (RetNB w (smallVal (LA s)) (isSmall (LA s))) := by
 obtain ⟨L, hL⟩ : ∃ L, (digs (mag (LA s))).length = L := ⟨_, rfl⟩
 have hlen := small_len (l := LA s)
 rw [hL] at hlen
 have HL := qh9 hL
 by_cases h9 : L ≤ 9
 · have hsm : isSmall (LA s) = true := by rw [hlen]; exact decide_eq_true h9
   have hsv : smallVal (LA s) = val (LA s) := by unfold smallVal; rw [hsm]; rfl
   rw [hsm, hsv]
   have hmag : Hid (ofD ((digs (mag (LA s))).drop 0) = mag (LA s)) := by show _ = _; rw [List.drop_zero, ofD_digs]
   have hm9 : mag (LA s) < 1000000000 := by rw [← hmag.out]; exact tail_lt (by rw [hL]; exact h9)
   clear hsm hsv hlen hL
   cases hn : neg (LA s) with
   | false =>
    have hv : Hid (val (LA s) = (mag (LA s) : Int)) := by show _ = _; rw [val_eq, hn]; rfl
    replace hn := qh9 hn
    rw [hv.out]
    go_enter Tryz.func120, Tryz.ntmps120
    go_wp2_with fail
    refine (digitsR s _ (by omega)).mono ?_
    rintro e w1 ⟨A1, c1, rfl, hc1, hR1, hb1⟩
    rw [HL.out, hn.out]
    go_wp2
    go_loop [6, 7] (fun u v => ∃ k : Nat, k ≤ L ∧ v = .int .i64 ((k : Int) - 1) ∧ u = .int .i64 (ofD ((digs (mag (LA s))).drop k) : Nat)) (fun _ v => (intOf v + 1).toNat)
    case atStart => exact ⟨L, Nat.le_refl _, rfl, by rw [List.drop_eq_nil_of_le (by rw [HL.out]; exact Nat.le_refl _)]; rfl⟩
    obtain ⟨k, hk, rfl, rfl⟩ := hrel
    by_cases hk0 : 0 < k
    · obtain ⟨b1, o1, rfl, hB1, hcell1⟩ := hR1 (by rw [HL.out]; omega)
      replace hcell1 := hcell1 (k - 1) (by rw [HL.out]; omega)
      have hp0 : (0 : Int) ≤ (k : Int) - 1 := by omega
      have hp1 : (k : Int) - 1 < L := by omega
      have x0 := dg_nonneg (digs (mag (LA s))) (k - 1)
      have x1 := dg_lt (allDig_digs (mag (LA s))) (k - 1)
      have hstep : Hid (((ofD ((digs (mag (LA s))).drop (k - 1)) : Nat) : Int) = 10 * ((ofD ((digs (mag (LA s))).drop k) : Nat) : Int) + dg (digs (mag (LA s))) (k - 1)) := by
       show _ = _
       rw [drop_cons _ (k - 1) (by rw [HL.out]; omega), show k - 1 + 1 = k from by omega]
       unfold dg
       omega
      have hv1 := tail_lt (n := mag (LA s)) (k := k) (by rw [HL.out]; exact h9)
      go_wp2
      go_round
      case rel => exact ⟨k - 1, by omega, by go_num, by rw [hstep.out]⟩
      case measure => simp [intOf]; omega
    · obtain rfl : k = 0 := by omega
      rw [hmag.out]
      go_wp2
      go_ret2
      exact ⟨rfl, hb1⟩
   | true =>
    have hv : Hid (val (LA s) = -(mag (LA s) : Int)) := by show _ = _; rw [val_eq, hn]; rfl
    replace hn := qh9 hn
    rw [hv.out]
    go_enter Tryz.func120, Tryz.ntmps120
    go_wp2_with fail
    refine (digitsR s _ (by omega)).mono ?_
    rintro e w1 ⟨A1, c1, rfl, hc1, hR1, hb1⟩
    rw [HL.out, hn.out]
    go_wp2
    go_loop [6, 7] (fun u v => ∃ k : Nat, k ≤ L ∧ v = .int .i64 ((k : Int) - 1) ∧ u = .int .i64 (ofD ((digs (mag (LA s))).drop k) : Nat)) (fun _ v => (intOf v + 1).toNat)
    case atStart => exact ⟨L, Nat.le_refl _, rfl, by rw [List.drop_eq_nil_of_le (by rw [HL.out]; exact Nat.le_refl _)]; rfl⟩
    obtain ⟨k, hk, rfl, rfl⟩ := hrel
    by_cases hk0 : 0 < k
    · obtain ⟨b1, o1, rfl, hB1, hcell1⟩ := hR1 (by rw [HL.out]; omega)
      replace hcell1 := hcell1 (k - 1) (by rw [HL.out]; omega)
      have hp0 : (0 : Int) ≤ (k : Int) - 1 := by omega
      have hp1 : (k : Int) - 1 < L := by omega
      have x0 := dg_nonneg (digs (mag (LA s))) (k - 1)
      have x1 := dg_lt (allDig_digs (mag (LA s))) (k - 1)
      have hstep : Hid (((ofD ((digs (mag (LA s))).drop (k - 1)) : Nat) : Int) = 10 * ((ofD ((digs (mag (LA s))).drop k) : Nat) : Int) + dg (digs (mag (LA s))) (k - 1)) := by
       show _ = _
       rw [drop_cons _ (k - 1) (by rw [HL.out]; omega), show k - 1 + 1 = k from by omega]
       unfold dg
       omega
      have hv1 := tail_lt (n := mag (LA s)) (k := k) (by rw [HL.out]; exact h9)
      go_wp2
      go_round
      case rel => exact ⟨k - 1, by omega, by go_num, by rw [hstep.out]⟩
      case measure => simp [intOf]; omega
    · obtain rfl : k = 0 := by omega
      rw [hmag.out]
      go_wp2
      go_ret2
      exact ⟨rfl, hb1⟩
 · have hsm : isSmall (LA s) = false := by rw [hlen]; exact decide_eq_false h9
   have hsv : smallVal (LA s) = 0 := by unfold smallVal; rw [hsm]; rfl
   have h10 : 9 < L := by omega
   rw [hsm, hsv]
   clear hsm hsv hlen hL
   go_enter Tryz.func120, Tryz.ntmps120
   go_wp2_with fail
   refine (digitsR s _ (by omega)).mono ?_
   rintro e w1 ⟨A1, c1, rfl, hc1, hR1, hb1⟩
   rw [HL.out]
   go_wp2
   go_ret2
   exact ⟨rfl, hb1⟩
theorem tRO (w : World) (S : Nat → Prop) : Calls Tryz.prog 28 #[] w (RetO w S .t) := by
 go_enter Tryz.func28, Tryz.ntmps28
 go_wp2_with fail
 refine (lispO _ _).mono ?_
 rintro e w1 ⟨rfl, hb1⟩
 have hg := (hb1.block w.heap.size (by simp)).trans (heap_alloc_new w _)
 go_wp2_with fail
 refine (symO _ _ _ (fun _ => False)).mono ?_
 rintro e w2 ⟨p, rfl, hp, hb2⟩
 have h12 := hb1.size
 simp only [World.size_alloc] at h12
 have h23 := hb2.size
 replace hg := qh9 ((hb2.block w.heap.size (by omega)).trans hg)
 go_wp2_with (refine storeV (w1 := w2) rfl (.tmp 0) (.tmp 2) rfl w.heap.size _ _ rfl rfl hp _ _ hg.out rfl ?_)
 exact retV (o := .t) rfl rfl hg.out hp (fun h => by
  rcases h with h | ⟨h, _⟩
  · exact h
  · omega) (fun b hb => by
  rcases hb with hb | ⟨h1, h2⟩
  · exact hb.elim
  · exact .inr ⟨by omega, h2⟩) (Nat.le_refl _) (((Below.alloc (Below.refl _ _) (Nat.le_refl _) _).trans (hb1.mono (by simp))).trans (hb2.mono (by omega)))

theorem tRH (w : World) : Calls Tryz.prog 28 #[] w (RetH w .t) := (tRO w NoB).mono fun _ _ h => h.h (NoB.in w)
theorem nilRH (w : World) : Calls Tryz.prog 14 #[] w (RetH w .nil) := (nilO w NoB).mono fun _ _ h => h.h (NoB.in w)
theorem textRH (s : ByteArray) (w : World) : Calls Tryz.prog 9 #[.string s] w (RetH w (.str (LA s))) := (textO s w NoB).mono fun _ _ h => h.h (NoB.in w)
theorem symbolRH (p n : ByteArray) (w : World) : Calls Tryz.prog 16 #[.agg #[.string p, .string n]] w (RetH w (.sym (LA p) (LA n))) := (symO p n w NoB).mono fun _ _ h => h.h (NoB.in w)
theorem intRH (n : Int) (w : World) (h : I64 n) (ht : Tab w) : Calls Tryz.prog 10 #[.int .i64 n] w (RetH w (inO n)) := (intO n w NoB (NoB.in w) h ht).mono fun _ _ h => h.h (NoB.in w)
theorem ratRH (s t : ByteArray) (w : World) (hs : s.size ≤ 300000000) (ht : t.size ≤ 300000000) : Calls Tryz.prog 20 #[.string s, .string t] w (RetH w (.num (quo (LA s) (LA t)))) := (ratO s t w NoB (NoB.in w) hs ht).mono fun _ _ h => h.h (NoB.in w)
theorem integerR (n : Int) (w : World) (hn : (BA (text n)).size ≤ 300000000) : Calls Tryz.prog 20 #[.string (BA (text n)), .string ⟨#[49]⟩] w (RetH w (inO n)) := by
 have h := ratRH (BA (text n)) ⟨#[49]⟩ w hn (by decide)
 rw [show quo (LA (BA (text n))) (LA ⟨#[49]⟩) = (n : Rat) by rw [show (⟨#[49]⟩ : ByteArray) = BA (text 1) from by decide, quo_text, q_int]] at h
 exact h
set_option maxHeartbeats 4000000 in
set_option maxRecDepth 100000 in
theorem truthR (yes : Bool) (w : World) : Calls Tryz.prog 64 #[.bool yes] w (RetH w (trO yes)) := by
 cases yes with
 | true =>
  have T := Bx1.new w #[.int .i64 0, .string ⟨#[]⟩, .string ⟨#[]⟩, .string ⟨#[]⟩, .string ⟨#[]⟩, .string ⟨#[]⟩, .slice none 0 0]
  go_enter Tryz.func64, Tryz.ntmps64
  go_upto_region 1 with fail
  generalize w.alloc (.cells #[.int .i64 0, .string ⟨#[]⟩, .string ⟨#[]⟩, .string ⟨#[]⟩, .string ⟨#[]⟩, .string ⟨#[]⟩, .slice none 0 0] 27) = W at T ⊢
  have R0 := qh9 T.b0
  have HW := qh9 T.bel
  clear T  
  go_wp2_with fail
  with_reducible refine (tRH _).mono ?_
  rintro e w1 ⟨p, rfl, kp, hb⟩
  replace R0 := qh9 (R0.out.keep hb)
  replace HW := qc9 HW hb
  clear hb
  replace kp := qh9 kp
  go_wp2_with ((with_reducible refine storeB (w1 := w1) (g := w.heap.size) (b := .t) (p := p) (.tmp 2) (.tmp 4) ?_ ?_ ?_ ?_ kp.out R0.out ?_); rfl; rfl; rfl; rfl)
  exact retHs rfl rfl R0.out rfl kp.out (by omega) HW.out
 | false =>
  have T := Bx1.new w #[.int .i64 0, .string ⟨#[]⟩, .string ⟨#[]⟩, .string ⟨#[]⟩, .string ⟨#[]⟩, .string ⟨#[]⟩, .slice none 0 0]
  go_enter Tryz.func64, Tryz.ntmps64
  go_upto_region 1 with fail
  generalize w.alloc (.cells #[.int .i64 0, .string ⟨#[]⟩, .string ⟨#[]⟩, .string ⟨#[]⟩, .string ⟨#[]⟩, .string ⟨#[]⟩, .slice none 0 0] 27) = W at T ⊢
  have R0 := qh9 T.b0
  have HW := qh9 T.bel
  clear T  
  go_wp2_with fail
  with_reducible refine (nilRH _).mono ?_
  rintro e w1 ⟨p, rfl, kp, hb⟩
  replace R0 := qh9 (R0.out.keep hb)
  replace HW := qc9 HW hb
  clear hb
  replace kp := qh9 kp
  go_wp2_with ((with_reducible refine storeB (w1 := w1) (g := w.heap.size) (b := .nil) (p := p) (.tmp 2) (.tmp 5) ?_ ?_ ?_ ?_ kp.out R0.out ?_); rfl; rfl; rfl; rfl)
  exact retHs rfl rfl R0.out rfl kp.out (by omega) HW.out
set_option maxHeartbeats 4000000 in
set_option maxRecDepth 100000 in
theorem strR (x : Ob) (p : Value) (w : World) : Calls Tryz.prog 68 #[vO x p] w (RetY w (.string (BA x.strV))) := by
 have hs : BA x.strV = if x.kd == 3 then x.f5 else ⟨#[]⟩ := by cases x <;> rfl
 rw [hs]
 clear hs
 have T := Bx1.new w #[.int .i64 x.kd, .string x.f1, .string x.f2, .string x.f3, .string x.f4, .string x.f5, p]
 rw [vOK]
 generalize x.kd = k at *
 generalize x.f1 = s1 at *
 generalize x.f2 = s2 at *
 generalize x.f3 = s3 at *
 generalize x.f4 = s4 at *
 generalize x.f5 = s5 at *
 by_cases h1 : k = 3
 · subst h1
   go_enter Tryz.func68, Tryz.ntmps68
   go_wp2_with fail
   go_ret
   exact ⟨rfl, T.bel⟩
 · have hk : (k == 3) = false := by rw [beq_eq_false_iff_ne]; exact h1
   rw [hk]
   go_enter Tryz.func68, Tryz.ntmps68
   go_wp2_with fail
   go_ret
   exact ⟨rfl, T.bel⟩
theorem smallT (n : Int) (w : World) (h : I64 n) : Calls Tryz.prog 120 #[.string (BA (text n))] w (RetNB w (smallVal (text n)) (isSmall (text n))) := by
 have hl := text_length (x := n) (k := 20) (by have h1 := h.1; have h2 := h.2; omega)
 have := smallR (BA (text n)) w (by rw [BA_size]; omega)
 rw [LA_BA] at this
 exact this
theorem small_text {n : Int} (h0 : 0 ≤ n) (h1 : n < 100000000) : isSmall (text n) = true ∧ smallVal (text n) = n := by
 have hl := text_length (x := n) (k := 8) (by omega)
 have e : (body (text n)).length ≤ 9 := by
  unfold body
  rw [if_pos (valid_text n)]
  have hm : isMinus (text n) = false := by
   have h2 := neg_signText (decide (n < 0)) n.natAbs
   unfold neg at h2
   rw [valid_signText, Bool.true_and] at h2
   have h3 : isMinus (text n) = (decide (n < 0) && n.natAbs != 0) := h2
   rw [h3, decide_eq_false (by omega)]
   rfl
  unfold strip
  rw [hm]
  have h4 : (text n).length ≤ 9 := by
   unfold text signText
   rw [decide_eq_false (by omega)]
   exact magText_length (k := 8) (by omega)
  exact h4
 have e1 : isSmall (text n) = true := decide_eq_true e
 refine ⟨e1, ?_⟩
 unfold smallVal
 rw [e1, if_pos rfl, val_text]
theorem small_bool {n : Int} {lim : Nat} (hl : lim ≤ 1000000) (h : ¬ (0 ≤ n ∧ n < lim)) : isSmall (text n) = false ∨ (isSmall (text n) = true ∧ (smallVal (text n) < 0 ∨ (lim : Int) ≤ smallVal (text n))) := by
 cases hs : isSmall (text n) with
 | false => exact .inl rfl
 | true =>
  right
  refine ⟨rfl, ?_⟩
  unfold smallVal
  rw [hs, if_pos rfl, val_text]
  omega
end Go.Proofs.YtbffnoodpoagcaaGreatDoor
