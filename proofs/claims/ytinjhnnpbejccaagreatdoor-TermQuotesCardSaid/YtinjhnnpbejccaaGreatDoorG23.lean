/- The program: isVariable. -/
import Derived.Test.YtinjhnnpbejccaaGreatDoorG19
import Derived.Test.YtinjhnnpbejccaaGreatDoorG21
import Derived.Test.YtinjhnnpbejccaaGreatDoorG22
import Derived.Test.YtinjhnnpbejccaaGreatDoorG20
namespace Go.Proofs.YtinjhnnpbejccaaGreatDoor
open Go Go.RowKit
set_option linter.unusedVariables false
set_option maxHeartbeats 32000000
set_option maxRecDepth 100000
set_option linter.unusedSimpArgs false
theorem lispT (s : ByteArray) (w : World) : Calls Tryz.prog 70 #[.string s] w fun e w' => e = .returned (.agg #[.string ⟨#[108, 105, 115, 112]⟩, .string s]) ∧ Below w.heap.size w w' := by
 go_enter Tryz.func70, Tryz.ntmps70
 go_wp2_with fail
 refine bodyPost_ret (results_cell_row rfl _ _ w.heap.size _ _ _ _ rfl (heap_alloc_new w _) Tryz.underlying23 rfl (by kernel_rfl)) rfl ⟨rfl, ?_⟩
 exact Below.alloc (Below.refl _ _) (Nat.le_refl _) _
def vOkT (p n : ByteArray) : Bool := Sy.symOk p n && (!(decide (p.toList = ([108, 105, 115, 112] : List UInt8)) && decide (n.toList = ([110, 105, 108] : List UInt8))) && !(decide (p.toList = ([108, 105, 115, 112] : List UInt8)) && decide (n.toList = ([116] : List UInt8))))
theorem isVarT (p n : ByteArray) (w : World) : Calls Tryz.prog 123 #[.agg #[.string p, .string n]] w (RetB w (vOkT p n)) := by
 have hA := below_alT w (.cells #[.string p, .string n] 23)
 have hg := heap_alloc_new w (.cells #[.string p, .string n] 23)
 have k0 : (w.alloc (.cells #[.string p, .string n] 23)).cell? ⟨w.heap.size, 0, none⟩ = some (.string p) := by rw [cell_of_row _ _ _ _ _ _ hg]; rfl
 have k1 : (w.alloc (.cells #[.string p, .string n] 23)).cell? ⟨w.heap.size, 1, none⟩ = some (.string n) := by rw [cell_of_row _ _ _ _ _ _ hg]; rfl
 have hl : w.heap.size < (w.alloc (.cells #[.string p, .string n] 23)).heap.size := by simp
 have HA := hI hA
 have K0 := hI k0
 have K1 := hI k1
 have HL := hI hl
 have CV : Hid (∀ X, Calls Tryz.prog 126 #[.agg #[.string p, .string n]] X (RetB X (Sy.symOk p n))) := fun X => Sy.validSY p n X
 have CL : Hid (∀ s X, Calls Tryz.prog 70 #[.string s] X fun e w' => e = .returned (.agg #[.string ⟨#[108, 105, 115, 112]⟩, .string s]) ∧ Below X.heap.size X w') := fun s X => lispT s X
 clear hA hg k0 k1 hl
 cases ha : Sy.symOk p n with
 | false =>
  rw [ha] at CV
  have RES : Hid (vOkT p n = false) := (show _ = _ by unfold vOkT; simp [ha])
  rw [RES.out]
  go_enter Tryz.func123, Tryz.ntmps123
  go_wp2_with fail
  generalize (w.alloc (.cells #[.string p, .string n] 23)) = W at *
  refine wp_region_grow (l := _) 12 (by kernel_rfl) (by kernel_rfl) (fun i => [3, 4, 5, 6, 7, 8, 9, 10, 11, 12, 13, 14].getD i 0) (LR [LV (.agg #[.string p, .string n]), LV (.bool false), LV (.bool false), LV undef, LV undef, LV undef, LV (.bool false), LV (.bool false), LV undef, LV undef, LV undef, LV (.bool false)]) (LR_mono ⟨mLV _, mLV _, mLV _, mLV _, mLV _, mLV _, mLV _, mLV _, mLV _, mLV _, mLV _, mLV _, trivial⟩) (by
   intro i j hi hj h
   exact inj_getD [3, 4, 5, 6, 7, 8, 9, 10, 11, 12, 13, 14] (by decide) i j hi hj h) (by
   intro i hi
   exact lt_getD 15 [3, 4, 5, 6, 7, 8, 9, 10, 11, 12, 13, 14] (by decide) i hi) ?step ?done
  case step =>
   intro ii hii a w9 v lo hi' hoth hb hw
   have sl1 : a.tmps[1]? = some (.pointer (some ⟨w.heap.size, 0, none⟩)) := (hoth 1 (fun j hj => ne_getD 1 _ (by decide) j hj)).trans rfl
   match ii, hii with
   | 0, _ =>
    have cc0 := (hb.cell (p := ⟨w.heap.size, 0, none⟩) HL.out).trans K0.out
    have cc1 := (hb.cell (p := ⟨w.heap.size, 1, none⟩) HL.out).trans K1.out
    refine wpOp_step rfl fun K' hK' => ?_
    rw [if_pos (wanted_plain rfl)]
    unfold Oper.wp
    simp only [execOp]
    go_simp
    exact hK' _ _ ⟨_, rfl, Below.refl _ _, rfl⟩
   | 1, _ =>
    obtain ⟨s0, r0, _⟩ := hw 0 (by omega) (by kernel_rfl)
    have e0 : v 0 = .agg #[.string p, .string n] := r0
    rw [e0] at s0
    replace s0 : a.tmps[3]? = some (.agg #[.string p, .string n]) := s0
    refine gw_t rfl (wanted_plain rfl) 126 3 _ _ rfl (fun v w => by go_simp) s0 ?_
    with_reducible refine (CV.out w9).mono ?_
    rintro e w3 ⟨rfl, hb3⟩
    exact ⟨_, rfl, _, rfl, hb3, rfl⟩
   | 2, _ =>
    obtain ⟨s0, r0, _⟩ := hw 1 (by omega) (by kernel_rfl)
    have e0 : v 1 = .bool false := r0
    rw [e0] at s0
    replace s0 : a.tmps[4]? = some (.bool false) := s0
    refine wpOp_step rfl fun K' hK' => ?_
    rw [if_pos (wanted_plain rfl)]
    unfold Oper.wp
    simp only [execOp]
    go_simp
    exact hK' _ _ ⟨_, rfl, Below.refl _ _, rfl⟩
   | 3, _ =>
    obtain ⟨s9, r9, _⟩ := hw 2 (by omega) (by kernel_rfl)
    have e9 : v 2 = .bool false := r9
    rw [e9] at s9
    replace s9 : a.tmps[5]? = some (.bool false) := s9
    exact gw_skip rfl (wanted_off rfl rfl rfl s9 rfl) ⟨_, rfl, Below.refl _ _, rfl⟩
   | 4, _ =>
    obtain ⟨s9, r9, _⟩ := hw 2 (by omega) (by kernel_rfl)
    have e9 : v 2 = .bool false := r9
    rw [e9] at s9
    replace s9 : a.tmps[5]? = some (.bool false) := s9
    exact gw_skip rfl (wanted_off rfl rfl rfl s9 rfl) ⟨_, rfl, Below.refl _ _, rfl⟩
   | 5, _ =>
    obtain ⟨s9, r9, _⟩ := hw 2 (by omega) (by kernel_rfl)
    have e9 : v 2 = .bool false := r9
    rw [e9] at s9
    replace s9 : a.tmps[5]? = some (.bool false) := s9
    exact gw_skip rfl (wanted_off rfl rfl rfl s9 rfl) ⟨_, rfl, Below.refl _ _, rfl⟩
   | 6, _ =>
    obtain ⟨s0, r0, _⟩ := hw 2 (by omega) (by kernel_rfl)
    have e0 : v 2 = .bool false := r0
    rw [e0] at s0
    replace s0 : a.tmps[5]? = some (.bool false) := s0
    refine wpOp_step rfl fun K' hK' => ?_
    rw [if_pos (wanted_plain rfl)]
    unfold Oper.wp
    simp only [execOp]
    go_simp
    exact hK' _ _ ⟨_, rfl, Below.refl _ _, rfl⟩
   | 7, _ =>
    obtain ⟨s0, r0, _⟩ := hw 6 (by omega) (by kernel_rfl)
    have e0 : v 6 = .bool false := r0
    rw [e0] at s0
    replace s0 : a.tmps[9]? = some (.bool false) := s0
    refine wpOp_step rfl fun K' hK' => ?_
    rw [if_pos (wanted_plain rfl)]
    unfold Oper.wp
    simp only [execOp]
    go_simp
    exact hK' _ _ ⟨_, rfl, Below.refl _ _, rfl⟩
   | 8, _ =>
    obtain ⟨s9, r9, _⟩ := hw 7 (by omega) (by kernel_rfl)
    have e9 : v 7 = .bool false := r9
    rw [e9] at s9
    replace s9 : a.tmps[10]? = some (.bool false) := s9
    exact gw_skip rfl (wanted_off rfl rfl rfl s9 rfl) ⟨_, rfl, Below.refl _ _, rfl⟩
   | 9, _ =>
    obtain ⟨s9, r9, _⟩ := hw 7 (by omega) (by kernel_rfl)
    have e9 : v 7 = .bool false := r9
    rw [e9] at s9
    replace s9 : a.tmps[10]? = some (.bool false) := s9
    exact gw_skip rfl (wanted_off rfl rfl rfl s9 rfl) ⟨_, rfl, Below.refl _ _, rfl⟩
   | 10, _ =>
    obtain ⟨s9, r9, _⟩ := hw 7 (by omega) (by kernel_rfl)
    have e9 : v 7 = .bool false := r9
    rw [e9] at s9
    replace s9 : a.tmps[10]? = some (.bool false) := s9
    exact gw_skip rfl (wanted_off rfl rfl rfl s9 rfl) ⟨_, rfl, Below.refl _ _, rfl⟩
   | 11, _ =>
    obtain ⟨s0, r0, _⟩ := hw 7 (by omega) (by kernel_rfl)
    have e0 : v 7 = .bool false := r0
    rw [e0] at s0
    replace s0 : a.tmps[10]? = some (.bool false) := s0
    refine wpOp_step rfl fun K' hK' => ?_
    rw [if_pos (wanted_plain rfl)]
    unfold Oper.wp
    simp only [execOp]
    go_simp
    exact hK' _ _ ⟨_, rfl, Below.refl _ _, rfl⟩
  case done =>
   intro a w9 v lo hi' hdef hsz hoth hb hj hap
   obtain ⟨_, hv11, _, _⟩ := hj 11 (by omega)
   have ha := eq_puts hdef hsz hoth (fun i hi => (hj i hi).1)
   subst ha
   clear hj hoth hdef hsz hap
   change v 11 = _ at hv11
   simp only [puts, List.getD_cons_zero, List.getD_cons_succ, hv11]
   generalize v 0 = v0
   generalize v 1 = v1
   generalize v 2 = v2
   generalize v 3 = v3
   generalize v 4 = v4
   generalize v 5 = v5
   generalize v 6 = v6
   generalize v 7 = v7
   generalize v 8 = v8
   generalize v 9 = v9
   generalize v 10 = v10
   clear hv11
   simp only [Act.put, List.setIfInBounds_toArray, List.set_cons_zero, List.set_cons_succ]
   show wpList _ _ _ [_] _ _

   have HB := hI (HA.out.trans (hb.mono HA.out.size))
   clear hb
   go_wp2_with fail
   go_ret
   exact ⟨rfl, HB.out⟩
 | true =>
  rw [ha] at CV
  by_cases hp : p.toList = ([108, 105, 115, 112] : List UInt8)
  · by_cases hn : n.toList = ([110, 105, 108] : List UInt8)
    · have ht : ¬ n.toList = ([116] : List UInt8) := by rw [hn]; decide
      have RES : Hid (vOkT p n = false) := (show _ = _ by unfold vOkT; simp [ha, hp, hn])
      rw [RES.out]
      go_enter Tryz.func123, Tryz.ntmps123
      go_wp2_with fail
      generalize (w.alloc (.cells #[.string p, .string n] 23)) = W at *
      refine wp_region_grow (l := _) 12 (by kernel_rfl) (by kernel_rfl) (fun i => [3, 4, 5, 6, 7, 8, 9, 10, 11, 12, 13, 14].getD i 0) (LR [LV (.agg #[.string p, .string n]), LV (.bool true), LV (.bool true), LV (.agg #[.string p, .string n]), LV (.agg #[.string ⟨#[108, 105, 115, 112]⟩, .string ⟨#[110, 105, 108]⟩]), LV (.bool false), LV (.bool false), LV (.bool false), LV undef, LV undef, LV undef, LV (.bool false)]) (LR_mono ⟨mLV _, mLV _, mLV _, mLV _, mLV _, mLV _, mLV _, mLV _, mLV _, mLV _, mLV _, mLV _, trivial⟩) (by
       intro i j hi hj h
       exact inj_getD [3, 4, 5, 6, 7, 8, 9, 10, 11, 12, 13, 14] (by decide) i j hi hj h) (by
       intro i hi
       exact lt_getD 15 [3, 4, 5, 6, 7, 8, 9, 10, 11, 12, 13, 14] (by decide) i hi) ?step ?done
      case step =>
       intro ii hii a w9 v lo hi' hoth hb hw
       have sl1 : a.tmps[1]? = some (.pointer (some ⟨w.heap.size, 0, none⟩)) := (hoth 1 (fun j hj => ne_getD 1 _ (by decide) j hj)).trans rfl
       match ii, hii with
       | 0, _ =>
        have cc0 := (hb.cell (p := ⟨w.heap.size, 0, none⟩) HL.out).trans K0.out
        have cc1 := (hb.cell (p := ⟨w.heap.size, 1, none⟩) HL.out).trans K1.out
        refine wpOp_step rfl fun K' hK' => ?_
        rw [if_pos (wanted_plain rfl)]
        unfold Oper.wp
        simp only [execOp]
        go_simp
        exact hK' _ _ ⟨_, rfl, Below.refl _ _, rfl⟩
       | 1, _ =>
        obtain ⟨s0, r0, _⟩ := hw 0 (by omega) (by kernel_rfl)
        have e0 : v 0 = .agg #[.string p, .string n] := r0
        rw [e0] at s0
        replace s0 : a.tmps[3]? = some (.agg #[.string p, .string n]) := s0
        refine gw_t rfl (wanted_plain rfl) 126 3 _ _ rfl (fun v w => by go_simp) s0 ?_
        with_reducible refine (CV.out w9).mono ?_
        rintro e w3 ⟨rfl, hb3⟩
        exact ⟨_, rfl, _, rfl, hb3, rfl⟩
       | 2, _ =>
        obtain ⟨s0, r0, _⟩ := hw 1 (by omega) (by kernel_rfl)
        have e0 : v 1 = .bool true := r0
        rw [e0] at s0
        replace s0 : a.tmps[4]? = some (.bool true) := s0
        refine wpOp_step rfl fun K' hK' => ?_
        rw [if_pos (wanted_plain rfl)]
        unfold Oper.wp
        simp only [execOp]
        go_simp
        exact hK' _ _ ⟨_, rfl, Below.refl _ _, rfl⟩
       | 3, _ =>
        obtain ⟨s9, r9, _⟩ := hw 2 (by omega) (by kernel_rfl)
        have e9 : v 2 = .bool true := r9
        rw [e9] at s9
        replace s9 : a.tmps[5]? = some (.bool true) := s9
        have cc0 := (hb.cell (p := ⟨w.heap.size, 0, none⟩) HL.out).trans K0.out
        have cc1 := (hb.cell (p := ⟨w.heap.size, 1, none⟩) HL.out).trans K1.out
        refine wpOp_step rfl fun K' hK' => ?_
        rw [if_pos (wanted_on rfl rfl rfl s9 rfl)]
        unfold Oper.wp
        simp only [execOp]
        go_simp
        exact hK' _ _ ⟨_, rfl, Below.refl _ _, rfl⟩
       | 4, _ =>
        obtain ⟨s9, r9, _⟩ := hw 2 (by omega) (by kernel_rfl)
        have e9 : v 2 = .bool true := r9
        rw [e9] at s9
        replace s9 : a.tmps[5]? = some (.bool true) := s9
        refine gw_c rfl (wanted_on rfl rfl rfl s9 rfl) 70  _ _ rfl (fun v w => by go_simp)  ?_
        with_reducible refine (CL.out _ w9).mono ?_
        rintro e w3 ⟨rfl, hb3⟩
        exact ⟨_, rfl, _, rfl, hb3, rfl⟩
       | 5, _ =>
        obtain ⟨s0, r0, _⟩ := hw 3 (by omega) (by kernel_rfl)
        have e0 : v 3 = .agg #[.string p, .string n] := r0
        rw [e0] at s0
        replace s0 : a.tmps[6]? = some (.agg #[.string p, .string n]) := s0
        obtain ⟨s1, r1, _⟩ := hw 4 (by omega) (by kernel_rfl)
        have e1 : v 4 = .agg #[.string ⟨#[108, 105, 115, 112]⟩, .string ⟨#[110, 105, 108]⟩] := r1
        rw [e1] at s1
        replace s1 : a.tmps[7]? = some (.agg #[.string ⟨#[108, 105, 115, 112]⟩, .string ⟨#[110, 105, 108]⟩]) := s1
        obtain ⟨s9, r9, _⟩ := hw 2 (by omega) (by kernel_rfl)
        have e9 : v 2 = .bool true := r9
        rw [e9] at s9
        replace s9 : a.tmps[5]? = some (.bool true) := s9
        refine wpOp_step rfl fun K' hK' => ?_
        rw [if_pos (wanted_on rfl rfl rfl s9 rfl)]
        unfold Oper.wp
        simp only [execOp]
        go_simp
        try simp only [hp, hn, if_true, if_false]
        exact hK' _ _ ⟨_, rfl, Below.refl _ _, rfl⟩
       | 6, _ =>
        obtain ⟨s0, r0, _⟩ := hw 2 (by omega) (by kernel_rfl)
        have e0 : v 2 = .bool true := r0
        rw [e0] at s0
        replace s0 : a.tmps[5]? = some (.bool true) := s0
        obtain ⟨s1, r1, _⟩ := hw 5 (by omega) (by kernel_rfl)
        have e1 : v 5 = .bool false := r1
        rw [e1] at s1
        replace s1 : a.tmps[8]? = some (.bool false) := s1
        refine wpOp_step rfl fun K' hK' => ?_
        rw [if_pos (wanted_plain rfl)]
        unfold Oper.wp
        simp only [execOp]
        go_simp
        exact hK' _ _ ⟨_, rfl, Below.refl _ _, rfl⟩
       | 7, _ =>
        obtain ⟨s0, r0, _⟩ := hw 6 (by omega) (by kernel_rfl)
        have e0 : v 6 = .bool false := r0
        rw [e0] at s0
        replace s0 : a.tmps[9]? = some (.bool false) := s0
        refine wpOp_step rfl fun K' hK' => ?_
        rw [if_pos (wanted_plain rfl)]
        unfold Oper.wp
        simp only [execOp]
        go_simp
        exact hK' _ _ ⟨_, rfl, Below.refl _ _, rfl⟩
       | 8, _ =>
        obtain ⟨s9, r9, _⟩ := hw 7 (by omega) (by kernel_rfl)
        have e9 : v 7 = .bool false := r9
        rw [e9] at s9
        replace s9 : a.tmps[10]? = some (.bool false) := s9
        exact gw_skip rfl (wanted_off rfl rfl rfl s9 rfl) ⟨_, rfl, Below.refl _ _, rfl⟩
       | 9, _ =>
        obtain ⟨s9, r9, _⟩ := hw 7 (by omega) (by kernel_rfl)
        have e9 : v 7 = .bool false := r9
        rw [e9] at s9
        replace s9 : a.tmps[10]? = some (.bool false) := s9
        exact gw_skip rfl (wanted_off rfl rfl rfl s9 rfl) ⟨_, rfl, Below.refl _ _, rfl⟩
       | 10, _ =>
        obtain ⟨s9, r9, _⟩ := hw 7 (by omega) (by kernel_rfl)
        have e9 : v 7 = .bool false := r9
        rw [e9] at s9
        replace s9 : a.tmps[10]? = some (.bool false) := s9
        exact gw_skip rfl (wanted_off rfl rfl rfl s9 rfl) ⟨_, rfl, Below.refl _ _, rfl⟩
       | 11, _ =>
        obtain ⟨s0, r0, _⟩ := hw 7 (by omega) (by kernel_rfl)
        have e0 : v 7 = .bool false := r0
        rw [e0] at s0
        replace s0 : a.tmps[10]? = some (.bool false) := s0
        refine wpOp_step rfl fun K' hK' => ?_
        rw [if_pos (wanted_plain rfl)]
        unfold Oper.wp
        simp only [execOp]
        go_simp
        exact hK' _ _ ⟨_, rfl, Below.refl _ _, rfl⟩
      case done =>
       intro a w9 v lo hi' hdef hsz hoth hb hj hap
       obtain ⟨_, hv11, _, _⟩ := hj 11 (by omega)
       have ha := eq_puts hdef hsz hoth (fun i hi => (hj i hi).1)
       subst ha
       clear hj hoth hdef hsz hap
       change v 11 = _ at hv11
       simp only [puts, List.getD_cons_zero, List.getD_cons_succ, hv11]
       generalize v 0 = v0
       generalize v 1 = v1
       generalize v 2 = v2
       generalize v 3 = v3
       generalize v 4 = v4
       generalize v 5 = v5
       generalize v 6 = v6
       generalize v 7 = v7
       generalize v 8 = v8
       generalize v 9 = v9
       generalize v 10 = v10
       clear hv11
       simp only [Act.put, List.setIfInBounds_toArray, List.set_cons_zero, List.set_cons_succ]
       show wpList _ _ _ [_] _ _

       have HB := hI (HA.out.trans (hb.mono HA.out.size))
       clear hb
       go_wp2_with fail
       go_ret
       exact ⟨rfl, HB.out⟩
    · by_cases ht : n.toList = ([116] : List UInt8)
      · skip
        have RES : Hid (vOkT p n = false) := (show _ = _ by unfold vOkT; simp [ha, hp, hn, ht])
        rw [RES.out]
        go_enter Tryz.func123, Tryz.ntmps123
        go_wp2_with fail
        generalize (w.alloc (.cells #[.string p, .string n] 23)) = W at *
        refine wp_region_grow (l := _) 12 (by kernel_rfl) (by kernel_rfl) (fun i => [3, 4, 5, 6, 7, 8, 9, 10, 11, 12, 13, 14].getD i 0) (LR [LV (.agg #[.string p, .string n]), LV (.bool true), LV (.bool true), LV (.agg #[.string p, .string n]), LV (.agg #[.string ⟨#[108, 105, 115, 112]⟩, .string ⟨#[110, 105, 108]⟩]), LV (.bool true), LV (.bool true), LV (.bool true), LV (.agg #[.string p, .string n]), LV (.agg #[.string ⟨#[108, 105, 115, 112]⟩, .string ⟨#[116]⟩]), LV (.bool false), LV (.bool false)]) (LR_mono ⟨mLV _, mLV _, mLV _, mLV _, mLV _, mLV _, mLV _, mLV _, mLV _, mLV _, mLV _, mLV _, trivial⟩) (by
         intro i j hi hj h
         exact inj_getD [3, 4, 5, 6, 7, 8, 9, 10, 11, 12, 13, 14] (by decide) i j hi hj h) (by
         intro i hi
         exact lt_getD 15 [3, 4, 5, 6, 7, 8, 9, 10, 11, 12, 13, 14] (by decide) i hi) ?step ?done
        case step =>
         intro ii hii a w9 v lo hi' hoth hb hw
         have sl1 : a.tmps[1]? = some (.pointer (some ⟨w.heap.size, 0, none⟩)) := (hoth 1 (fun j hj => ne_getD 1 _ (by decide) j hj)).trans rfl
         match ii, hii with
         | 0, _ =>
          have cc0 := (hb.cell (p := ⟨w.heap.size, 0, none⟩) HL.out).trans K0.out
          have cc1 := (hb.cell (p := ⟨w.heap.size, 1, none⟩) HL.out).trans K1.out
          refine wpOp_step rfl fun K' hK' => ?_
          rw [if_pos (wanted_plain rfl)]
          unfold Oper.wp
          simp only [execOp]
          go_simp
          exact hK' _ _ ⟨_, rfl, Below.refl _ _, rfl⟩
         | 1, _ =>
          obtain ⟨s0, r0, _⟩ := hw 0 (by omega) (by kernel_rfl)
          have e0 : v 0 = .agg #[.string p, .string n] := r0
          rw [e0] at s0
          replace s0 : a.tmps[3]? = some (.agg #[.string p, .string n]) := s0
          refine gw_t rfl (wanted_plain rfl) 126 3 _ _ rfl (fun v w => by go_simp) s0 ?_
          with_reducible refine (CV.out w9).mono ?_
          rintro e w3 ⟨rfl, hb3⟩
          exact ⟨_, rfl, _, rfl, hb3, rfl⟩
         | 2, _ =>
          obtain ⟨s0, r0, _⟩ := hw 1 (by omega) (by kernel_rfl)
          have e0 : v 1 = .bool true := r0
          rw [e0] at s0
          replace s0 : a.tmps[4]? = some (.bool true) := s0
          refine wpOp_step rfl fun K' hK' => ?_
          rw [if_pos (wanted_plain rfl)]
          unfold Oper.wp
          simp only [execOp]
          go_simp
          exact hK' _ _ ⟨_, rfl, Below.refl _ _, rfl⟩
         | 3, _ =>
          obtain ⟨s9, r9, _⟩ := hw 2 (by omega) (by kernel_rfl)
          have e9 : v 2 = .bool true := r9
          rw [e9] at s9
          replace s9 : a.tmps[5]? = some (.bool true) := s9
          have cc0 := (hb.cell (p := ⟨w.heap.size, 0, none⟩) HL.out).trans K0.out
          have cc1 := (hb.cell (p := ⟨w.heap.size, 1, none⟩) HL.out).trans K1.out
          refine wpOp_step rfl fun K' hK' => ?_
          rw [if_pos (wanted_on rfl rfl rfl s9 rfl)]
          unfold Oper.wp
          simp only [execOp]
          go_simp
          exact hK' _ _ ⟨_, rfl, Below.refl _ _, rfl⟩
         | 4, _ =>
          obtain ⟨s9, r9, _⟩ := hw 2 (by omega) (by kernel_rfl)
          have e9 : v 2 = .bool true := r9
          rw [e9] at s9
          replace s9 : a.tmps[5]? = some (.bool true) := s9
          refine gw_c rfl (wanted_on rfl rfl rfl s9 rfl) 70  _ _ rfl (fun v w => by go_simp)  ?_
          with_reducible refine (CL.out _ w9).mono ?_
          rintro e w3 ⟨rfl, hb3⟩
          exact ⟨_, rfl, _, rfl, hb3, rfl⟩
         | 5, _ =>
          obtain ⟨s0, r0, _⟩ := hw 3 (by omega) (by kernel_rfl)
          have e0 : v 3 = .agg #[.string p, .string n] := r0
          rw [e0] at s0
          replace s0 : a.tmps[6]? = some (.agg #[.string p, .string n]) := s0
          obtain ⟨s1, r1, _⟩ := hw 4 (by omega) (by kernel_rfl)
          have e1 : v 4 = .agg #[.string ⟨#[108, 105, 115, 112]⟩, .string ⟨#[110, 105, 108]⟩] := r1
          rw [e1] at s1
          replace s1 : a.tmps[7]? = some (.agg #[.string ⟨#[108, 105, 115, 112]⟩, .string ⟨#[110, 105, 108]⟩]) := s1
          obtain ⟨s9, r9, _⟩ := hw 2 (by omega) (by kernel_rfl)
          have e9 : v 2 = .bool true := r9
          rw [e9] at s9
          replace s9 : a.tmps[5]? = some (.bool true) := s9
          refine wpOp_step rfl fun K' hK' => ?_
          rw [if_pos (wanted_on rfl rfl rfl s9 rfl)]
          unfold Oper.wp
          simp only [execOp]
          go_simp
          try simp only [hp, hn, ht, if_true, if_false]
          exact hK' _ _ ⟨_, rfl, Below.refl _ _, rfl⟩
         | 6, _ =>
          obtain ⟨s0, r0, _⟩ := hw 2 (by omega) (by kernel_rfl)
          have e0 : v 2 = .bool true := r0
          rw [e0] at s0
          replace s0 : a.tmps[5]? = some (.bool true) := s0
          obtain ⟨s1, r1, _⟩ := hw 5 (by omega) (by kernel_rfl)
          have e1 : v 5 = .bool true := r1
          rw [e1] at s1
          replace s1 : a.tmps[8]? = some (.bool true) := s1
          refine wpOp_step rfl fun K' hK' => ?_
          rw [if_pos (wanted_plain rfl)]
          unfold Oper.wp
          simp only [execOp]
          go_simp
          exact hK' _ _ ⟨_, rfl, Below.refl _ _, rfl⟩
         | 7, _ =>
          obtain ⟨s0, r0, _⟩ := hw 6 (by omega) (by kernel_rfl)
          have e0 : v 6 = .bool true := r0
          rw [e0] at s0
          replace s0 : a.tmps[9]? = some (.bool true) := s0
          refine wpOp_step rfl fun K' hK' => ?_
          rw [if_pos (wanted_plain rfl)]
          unfold Oper.wp
          simp only [execOp]
          go_simp
          exact hK' _ _ ⟨_, rfl, Below.refl _ _, rfl⟩
         | 8, _ =>
          obtain ⟨s9, r9, _⟩ := hw 7 (by omega) (by kernel_rfl)
          have e9 : v 7 = .bool true := r9
          rw [e9] at s9
          replace s9 : a.tmps[10]? = some (.bool true) := s9
          have cc0 := (hb.cell (p := ⟨w.heap.size, 0, none⟩) HL.out).trans K0.out
          have cc1 := (hb.cell (p := ⟨w.heap.size, 1, none⟩) HL.out).trans K1.out
          refine wpOp_step rfl fun K' hK' => ?_
          rw [if_pos (wanted_on rfl rfl rfl s9 rfl)]
          unfold Oper.wp
          simp only [execOp]
          go_simp
          exact hK' _ _ ⟨_, rfl, Below.refl _ _, rfl⟩
         | 9, _ =>
          obtain ⟨s9, r9, _⟩ := hw 7 (by omega) (by kernel_rfl)
          have e9 : v 7 = .bool true := r9
          rw [e9] at s9
          replace s9 : a.tmps[10]? = some (.bool true) := s9
          refine gw_c rfl (wanted_on rfl rfl rfl s9 rfl) 70  _ _ rfl (fun v w => by go_simp)  ?_
          with_reducible refine (CL.out _ w9).mono ?_
          rintro e w3 ⟨rfl, hb3⟩
          exact ⟨_, rfl, _, rfl, hb3, rfl⟩
         | 10, _ =>
          obtain ⟨s0, r0, _⟩ := hw 8 (by omega) (by kernel_rfl)
          have e0 : v 8 = .agg #[.string p, .string n] := r0
          rw [e0] at s0
          replace s0 : a.tmps[11]? = some (.agg #[.string p, .string n]) := s0
          obtain ⟨s1, r1, _⟩ := hw 9 (by omega) (by kernel_rfl)
          have e1 : v 9 = .agg #[.string ⟨#[108, 105, 115, 112]⟩, .string ⟨#[116]⟩] := r1
          rw [e1] at s1
          replace s1 : a.tmps[12]? = some (.agg #[.string ⟨#[108, 105, 115, 112]⟩, .string ⟨#[116]⟩]) := s1
          obtain ⟨s9, r9, _⟩ := hw 7 (by omega) (by kernel_rfl)
          have e9 : v 7 = .bool true := r9
          rw [e9] at s9
          replace s9 : a.tmps[10]? = some (.bool true) := s9
          refine wpOp_step rfl fun K' hK' => ?_
          rw [if_pos (wanted_on rfl rfl rfl s9 rfl)]
          unfold Oper.wp
          simp only [execOp]
          go_simp
          try simp only [hp, hn, ht, if_true, if_false]
          exact hK' _ _ ⟨_, rfl, Below.refl _ _, rfl⟩
         | 11, _ =>
          obtain ⟨s0, r0, _⟩ := hw 7 (by omega) (by kernel_rfl)
          have e0 : v 7 = .bool true := r0
          rw [e0] at s0
          replace s0 : a.tmps[10]? = some (.bool true) := s0
          obtain ⟨s1, r1, _⟩ := hw 10 (by omega) (by kernel_rfl)
          have e1 : v 10 = .bool false := r1
          rw [e1] at s1
          replace s1 : a.tmps[13]? = some (.bool false) := s1
          refine wpOp_step rfl fun K' hK' => ?_
          rw [if_pos (wanted_plain rfl)]
          unfold Oper.wp
          simp only [execOp]
          go_simp
          exact hK' _ _ ⟨_, rfl, Below.refl _ _, rfl⟩
        case done =>
         intro a w9 v lo hi' hdef hsz hoth hb hj hap
         obtain ⟨_, hv11, _, _⟩ := hj 11 (by omega)
         have ha := eq_puts hdef hsz hoth (fun i hi => (hj i hi).1)
         subst ha
         clear hj hoth hdef hsz hap
         change v 11 = _ at hv11
         simp only [puts, List.getD_cons_zero, List.getD_cons_succ, hv11]
         generalize v 0 = v0
         generalize v 1 = v1
         generalize v 2 = v2
         generalize v 3 = v3
         generalize v 4 = v4
         generalize v 5 = v5
         generalize v 6 = v6
         generalize v 7 = v7
         generalize v 8 = v8
         generalize v 9 = v9
         generalize v 10 = v10
         clear hv11
         simp only [Act.put, List.setIfInBounds_toArray, List.set_cons_zero, List.set_cons_succ]
         show wpList _ _ _ [_] _ _

         have HB := hI (HA.out.trans (hb.mono HA.out.size))
         clear hb
         go_wp2_with fail
         go_ret
         exact ⟨rfl, HB.out⟩
      · skip
        have RES : Hid (vOkT p n = true) := (show _ = _ by unfold vOkT; simp [ha, hp, hn, ht])
        rw [RES.out]
        go_enter Tryz.func123, Tryz.ntmps123
        go_wp2_with fail
        generalize (w.alloc (.cells #[.string p, .string n] 23)) = W at *
        refine wp_region_grow (l := _) 12 (by kernel_rfl) (by kernel_rfl) (fun i => [3, 4, 5, 6, 7, 8, 9, 10, 11, 12, 13, 14].getD i 0) (LR [LV (.agg #[.string p, .string n]), LV (.bool true), LV (.bool true), LV (.agg #[.string p, .string n]), LV (.agg #[.string ⟨#[108, 105, 115, 112]⟩, .string ⟨#[110, 105, 108]⟩]), LV (.bool true), LV (.bool true), LV (.bool true), LV (.agg #[.string p, .string n]), LV (.agg #[.string ⟨#[108, 105, 115, 112]⟩, .string ⟨#[116]⟩]), LV (.bool true), LV (.bool true)]) (LR_mono ⟨mLV _, mLV _, mLV _, mLV _, mLV _, mLV _, mLV _, mLV _, mLV _, mLV _, mLV _, mLV _, trivial⟩) (by
         intro i j hi hj h
         exact inj_getD [3, 4, 5, 6, 7, 8, 9, 10, 11, 12, 13, 14] (by decide) i j hi hj h) (by
         intro i hi
         exact lt_getD 15 [3, 4, 5, 6, 7, 8, 9, 10, 11, 12, 13, 14] (by decide) i hi) ?step ?done
        case step =>
         intro ii hii a w9 v lo hi' hoth hb hw
         have sl1 : a.tmps[1]? = some (.pointer (some ⟨w.heap.size, 0, none⟩)) := (hoth 1 (fun j hj => ne_getD 1 _ (by decide) j hj)).trans rfl
         match ii, hii with
         | 0, _ =>
          have cc0 := (hb.cell (p := ⟨w.heap.size, 0, none⟩) HL.out).trans K0.out
          have cc1 := (hb.cell (p := ⟨w.heap.size, 1, none⟩) HL.out).trans K1.out
          refine wpOp_step rfl fun K' hK' => ?_
          rw [if_pos (wanted_plain rfl)]
          unfold Oper.wp
          simp only [execOp]
          go_simp
          exact hK' _ _ ⟨_, rfl, Below.refl _ _, rfl⟩
         | 1, _ =>
          obtain ⟨s0, r0, _⟩ := hw 0 (by omega) (by kernel_rfl)
          have e0 : v 0 = .agg #[.string p, .string n] := r0
          rw [e0] at s0
          replace s0 : a.tmps[3]? = some (.agg #[.string p, .string n]) := s0
          refine gw_t rfl (wanted_plain rfl) 126 3 _ _ rfl (fun v w => by go_simp) s0 ?_
          with_reducible refine (CV.out w9).mono ?_
          rintro e w3 ⟨rfl, hb3⟩
          exact ⟨_, rfl, _, rfl, hb3, rfl⟩
         | 2, _ =>
          obtain ⟨s0, r0, _⟩ := hw 1 (by omega) (by kernel_rfl)
          have e0 : v 1 = .bool true := r0
          rw [e0] at s0
          replace s0 : a.tmps[4]? = some (.bool true) := s0
          refine wpOp_step rfl fun K' hK' => ?_
          rw [if_pos (wanted_plain rfl)]
          unfold Oper.wp
          simp only [execOp]
          go_simp
          exact hK' _ _ ⟨_, rfl, Below.refl _ _, rfl⟩
         | 3, _ =>
          obtain ⟨s9, r9, _⟩ := hw 2 (by omega) (by kernel_rfl)
          have e9 : v 2 = .bool true := r9
          rw [e9] at s9
          replace s9 : a.tmps[5]? = some (.bool true) := s9
          have cc0 := (hb.cell (p := ⟨w.heap.size, 0, none⟩) HL.out).trans K0.out
          have cc1 := (hb.cell (p := ⟨w.heap.size, 1, none⟩) HL.out).trans K1.out
          refine wpOp_step rfl fun K' hK' => ?_
          rw [if_pos (wanted_on rfl rfl rfl s9 rfl)]
          unfold Oper.wp
          simp only [execOp]
          go_simp
          exact hK' _ _ ⟨_, rfl, Below.refl _ _, rfl⟩
         | 4, _ =>
          obtain ⟨s9, r9, _⟩ := hw 2 (by omega) (by kernel_rfl)
          have e9 : v 2 = .bool true := r9
          rw [e9] at s9
          replace s9 : a.tmps[5]? = some (.bool true) := s9
          refine gw_c rfl (wanted_on rfl rfl rfl s9 rfl) 70  _ _ rfl (fun v w => by go_simp)  ?_
          with_reducible refine (CL.out _ w9).mono ?_
          rintro e w3 ⟨rfl, hb3⟩
          exact ⟨_, rfl, _, rfl, hb3, rfl⟩
         | 5, _ =>
          obtain ⟨s0, r0, _⟩ := hw 3 (by omega) (by kernel_rfl)
          have e0 : v 3 = .agg #[.string p, .string n] := r0
          rw [e0] at s0
          replace s0 : a.tmps[6]? = some (.agg #[.string p, .string n]) := s0
          obtain ⟨s1, r1, _⟩ := hw 4 (by omega) (by kernel_rfl)
          have e1 : v 4 = .agg #[.string ⟨#[108, 105, 115, 112]⟩, .string ⟨#[110, 105, 108]⟩] := r1
          rw [e1] at s1
          replace s1 : a.tmps[7]? = some (.agg #[.string ⟨#[108, 105, 115, 112]⟩, .string ⟨#[110, 105, 108]⟩]) := s1
          obtain ⟨s9, r9, _⟩ := hw 2 (by omega) (by kernel_rfl)
          have e9 : v 2 = .bool true := r9
          rw [e9] at s9
          replace s9 : a.tmps[5]? = some (.bool true) := s9
          refine wpOp_step rfl fun K' hK' => ?_
          rw [if_pos (wanted_on rfl rfl rfl s9 rfl)]
          unfold Oper.wp
          simp only [execOp]
          go_simp
          try simp only [hp, hn, ht, if_true, if_false]
          exact hK' _ _ ⟨_, rfl, Below.refl _ _, rfl⟩
         | 6, _ =>
          obtain ⟨s0, r0, _⟩ := hw 2 (by omega) (by kernel_rfl)
          have e0 : v 2 = .bool true := r0
          rw [e0] at s0
          replace s0 : a.tmps[5]? = some (.bool true) := s0
          obtain ⟨s1, r1, _⟩ := hw 5 (by omega) (by kernel_rfl)
          have e1 : v 5 = .bool true := r1
          rw [e1] at s1
          replace s1 : a.tmps[8]? = some (.bool true) := s1
          refine wpOp_step rfl fun K' hK' => ?_
          rw [if_pos (wanted_plain rfl)]
          unfold Oper.wp
          simp only [execOp]
          go_simp
          exact hK' _ _ ⟨_, rfl, Below.refl _ _, rfl⟩
         | 7, _ =>
          obtain ⟨s0, r0, _⟩ := hw 6 (by omega) (by kernel_rfl)
          have e0 : v 6 = .bool true := r0
          rw [e0] at s0
          replace s0 : a.tmps[9]? = some (.bool true) := s0
          refine wpOp_step rfl fun K' hK' => ?_
          rw [if_pos (wanted_plain rfl)]
          unfold Oper.wp
          simp only [execOp]
          go_simp
          exact hK' _ _ ⟨_, rfl, Below.refl _ _, rfl⟩
         | 8, _ =>
          obtain ⟨s9, r9, _⟩ := hw 7 (by omega) (by kernel_rfl)
          have e9 : v 7 = .bool true := r9
          rw [e9] at s9
          replace s9 : a.tmps[10]? = some (.bool true) := s9
          have cc0 := (hb.cell (p := ⟨w.heap.size, 0, none⟩) HL.out).trans K0.out
          have cc1 := (hb.cell (p := ⟨w.heap.size, 1, none⟩) HL.out).trans K1.out
          refine wpOp_step rfl fun K' hK' => ?_
          rw [if_pos (wanted_on rfl rfl rfl s9 rfl)]
          unfold Oper.wp
          simp only [execOp]
          go_simp
          exact hK' _ _ ⟨_, rfl, Below.refl _ _, rfl⟩
         | 9, _ =>
          obtain ⟨s9, r9, _⟩ := hw 7 (by omega) (by kernel_rfl)
          have e9 : v 7 = .bool true := r9
          rw [e9] at s9
          replace s9 : a.tmps[10]? = some (.bool true) := s9
          refine gw_c rfl (wanted_on rfl rfl rfl s9 rfl) 70  _ _ rfl (fun v w => by go_simp)  ?_
          with_reducible refine (CL.out _ w9).mono ?_
          rintro e w3 ⟨rfl, hb3⟩
          exact ⟨_, rfl, _, rfl, hb3, rfl⟩
         | 10, _ =>
          obtain ⟨s0, r0, _⟩ := hw 8 (by omega) (by kernel_rfl)
          have e0 : v 8 = .agg #[.string p, .string n] := r0
          rw [e0] at s0
          replace s0 : a.tmps[11]? = some (.agg #[.string p, .string n]) := s0
          obtain ⟨s1, r1, _⟩ := hw 9 (by omega) (by kernel_rfl)
          have e1 : v 9 = .agg #[.string ⟨#[108, 105, 115, 112]⟩, .string ⟨#[116]⟩] := r1
          rw [e1] at s1
          replace s1 : a.tmps[12]? = some (.agg #[.string ⟨#[108, 105, 115, 112]⟩, .string ⟨#[116]⟩]) := s1
          obtain ⟨s9, r9, _⟩ := hw 7 (by omega) (by kernel_rfl)
          have e9 : v 7 = .bool true := r9
          rw [e9] at s9
          replace s9 : a.tmps[10]? = some (.bool true) := s9
          refine wpOp_step rfl fun K' hK' => ?_
          rw [if_pos (wanted_on rfl rfl rfl s9 rfl)]
          unfold Oper.wp
          simp only [execOp]
          go_simp
          try simp only [hp, hn, ht, if_true, if_false]
          exact hK' _ _ ⟨_, rfl, Below.refl _ _, rfl⟩
         | 11, _ =>
          obtain ⟨s0, r0, _⟩ := hw 7 (by omega) (by kernel_rfl)
          have e0 : v 7 = .bool true := r0
          rw [e0] at s0
          replace s0 : a.tmps[10]? = some (.bool true) := s0
          obtain ⟨s1, r1, _⟩ := hw 10 (by omega) (by kernel_rfl)
          have e1 : v 10 = .bool true := r1
          rw [e1] at s1
          replace s1 : a.tmps[13]? = some (.bool true) := s1
          refine wpOp_step rfl fun K' hK' => ?_
          rw [if_pos (wanted_plain rfl)]
          unfold Oper.wp
          simp only [execOp]
          go_simp
          exact hK' _ _ ⟨_, rfl, Below.refl _ _, rfl⟩
        case done =>
         intro a w9 v lo hi' hdef hsz hoth hb hj hap
         obtain ⟨_, hv11, _, _⟩ := hj 11 (by omega)
         have ha := eq_puts hdef hsz hoth (fun i hi => (hj i hi).1)
         subst ha
         clear hj hoth hdef hsz hap
         change v 11 = _ at hv11
         simp only [puts, List.getD_cons_zero, List.getD_cons_succ, hv11]
         generalize v 0 = v0
         generalize v 1 = v1
         generalize v 2 = v2
         generalize v 3 = v3
         generalize v 4 = v4
         generalize v 5 = v5
         generalize v 6 = v6
         generalize v 7 = v7
         generalize v 8 = v8
         generalize v 9 = v9
         generalize v 10 = v10
         clear hv11
         simp only [Act.put, List.setIfInBounds_toArray, List.set_cons_zero, List.set_cons_succ]
         show wpList _ _ _ [_] _ _

         have HB := hI (HA.out.trans (hb.mono HA.out.size))
         clear hb
         go_wp2_with fail
         go_ret
         exact ⟨rfl, HB.out⟩
  · skip
    have RES : Hid (vOkT p n = true) := (show _ = _ by unfold vOkT; simp [ha, hp])
    rw [RES.out]
    go_enter Tryz.func123, Tryz.ntmps123
    go_wp2_with fail
    generalize (w.alloc (.cells #[.string p, .string n] 23)) = W at *
    refine wp_region_grow (l := _) 12 (by kernel_rfl) (by kernel_rfl) (fun i => [3, 4, 5, 6, 7, 8, 9, 10, 11, 12, 13, 14].getD i 0) (LR [LV (.agg #[.string p, .string n]), LV (.bool true), LV (.bool true), LV (.agg #[.string p, .string n]), LV (.agg #[.string ⟨#[108, 105, 115, 112]⟩, .string ⟨#[110, 105, 108]⟩]), LV (.bool true), LV (.bool true), LV (.bool true), LV (.agg #[.string p, .string n]), LV (.agg #[.string ⟨#[108, 105, 115, 112]⟩, .string ⟨#[116]⟩]), LV (.bool true), LV (.bool true)]) (LR_mono ⟨mLV _, mLV _, mLV _, mLV _, mLV _, mLV _, mLV _, mLV _, mLV _, mLV _, mLV _, mLV _, trivial⟩) (by
     intro i j hi hj h
     exact inj_getD [3, 4, 5, 6, 7, 8, 9, 10, 11, 12, 13, 14] (by decide) i j hi hj h) (by
     intro i hi
     exact lt_getD 15 [3, 4, 5, 6, 7, 8, 9, 10, 11, 12, 13, 14] (by decide) i hi) ?step ?done
    case step =>
     intro ii hii a w9 v lo hi' hoth hb hw
     have sl1 : a.tmps[1]? = some (.pointer (some ⟨w.heap.size, 0, none⟩)) := (hoth 1 (fun j hj => ne_getD 1 _ (by decide) j hj)).trans rfl
     match ii, hii with
     | 0, _ =>
      have cc0 := (hb.cell (p := ⟨w.heap.size, 0, none⟩) HL.out).trans K0.out
      have cc1 := (hb.cell (p := ⟨w.heap.size, 1, none⟩) HL.out).trans K1.out
      refine wpOp_step rfl fun K' hK' => ?_
      rw [if_pos (wanted_plain rfl)]
      unfold Oper.wp
      simp only [execOp]
      go_simp
      exact hK' _ _ ⟨_, rfl, Below.refl _ _, rfl⟩
     | 1, _ =>
      obtain ⟨s0, r0, _⟩ := hw 0 (by omega) (by kernel_rfl)
      have e0 : v 0 = .agg #[.string p, .string n] := r0
      rw [e0] at s0
      replace s0 : a.tmps[3]? = some (.agg #[.string p, .string n]) := s0
      refine gw_t rfl (wanted_plain rfl) 126 3 _ _ rfl (fun v w => by go_simp) s0 ?_
      with_reducible refine (CV.out w9).mono ?_
      rintro e w3 ⟨rfl, hb3⟩
      exact ⟨_, rfl, _, rfl, hb3, rfl⟩
     | 2, _ =>
      obtain ⟨s0, r0, _⟩ := hw 1 (by omega) (by kernel_rfl)
      have e0 : v 1 = .bool true := r0
      rw [e0] at s0
      replace s0 : a.tmps[4]? = some (.bool true) := s0
      refine wpOp_step rfl fun K' hK' => ?_
      rw [if_pos (wanted_plain rfl)]
      unfold Oper.wp
      simp only [execOp]
      go_simp
      exact hK' _ _ ⟨_, rfl, Below.refl _ _, rfl⟩
     | 3, _ =>
      obtain ⟨s9, r9, _⟩ := hw 2 (by omega) (by kernel_rfl)
      have e9 : v 2 = .bool true := r9
      rw [e9] at s9
      replace s9 : a.tmps[5]? = some (.bool true) := s9
      have cc0 := (hb.cell (p := ⟨w.heap.size, 0, none⟩) HL.out).trans K0.out
      have cc1 := (hb.cell (p := ⟨w.heap.size, 1, none⟩) HL.out).trans K1.out
      refine wpOp_step rfl fun K' hK' => ?_
      rw [if_pos (wanted_on rfl rfl rfl s9 rfl)]
      unfold Oper.wp
      simp only [execOp]
      go_simp
      exact hK' _ _ ⟨_, rfl, Below.refl _ _, rfl⟩
     | 4, _ =>
      obtain ⟨s9, r9, _⟩ := hw 2 (by omega) (by kernel_rfl)
      have e9 : v 2 = .bool true := r9
      rw [e9] at s9
      replace s9 : a.tmps[5]? = some (.bool true) := s9
      refine gw_c rfl (wanted_on rfl rfl rfl s9 rfl) 70  _ _ rfl (fun v w => by go_simp)  ?_
      with_reducible refine (CL.out _ w9).mono ?_
      rintro e w3 ⟨rfl, hb3⟩
      exact ⟨_, rfl, _, rfl, hb3, rfl⟩
     | 5, _ =>
      obtain ⟨s0, r0, _⟩ := hw 3 (by omega) (by kernel_rfl)
      have e0 : v 3 = .agg #[.string p, .string n] := r0
      rw [e0] at s0
      replace s0 : a.tmps[6]? = some (.agg #[.string p, .string n]) := s0
      obtain ⟨s1, r1, _⟩ := hw 4 (by omega) (by kernel_rfl)
      have e1 : v 4 = .agg #[.string ⟨#[108, 105, 115, 112]⟩, .string ⟨#[110, 105, 108]⟩] := r1
      rw [e1] at s1
      replace s1 : a.tmps[7]? = some (.agg #[.string ⟨#[108, 105, 115, 112]⟩, .string ⟨#[110, 105, 108]⟩]) := s1
      obtain ⟨s9, r9, _⟩ := hw 2 (by omega) (by kernel_rfl)
      have e9 : v 2 = .bool true := r9
      rw [e9] at s9
      replace s9 : a.tmps[5]? = some (.bool true) := s9
      refine wpOp_step rfl fun K' hK' => ?_
      rw [if_pos (wanted_on rfl rfl rfl s9 rfl)]
      unfold Oper.wp
      simp only [execOp]
      go_simp
      try simp only [hp, if_true, if_false]
      exact hK' _ _ ⟨_, rfl, Below.refl _ _, rfl⟩
     | 6, _ =>
      obtain ⟨s0, r0, _⟩ := hw 2 (by omega) (by kernel_rfl)
      have e0 : v 2 = .bool true := r0
      rw [e0] at s0
      replace s0 : a.tmps[5]? = some (.bool true) := s0
      obtain ⟨s1, r1, _⟩ := hw 5 (by omega) (by kernel_rfl)
      have e1 : v 5 = .bool true := r1
      rw [e1] at s1
      replace s1 : a.tmps[8]? = some (.bool true) := s1
      refine wpOp_step rfl fun K' hK' => ?_
      rw [if_pos (wanted_plain rfl)]
      unfold Oper.wp
      simp only [execOp]
      go_simp
      exact hK' _ _ ⟨_, rfl, Below.refl _ _, rfl⟩
     | 7, _ =>
      obtain ⟨s0, r0, _⟩ := hw 6 (by omega) (by kernel_rfl)
      have e0 : v 6 = .bool true := r0
      rw [e0] at s0
      replace s0 : a.tmps[9]? = some (.bool true) := s0
      refine wpOp_step rfl fun K' hK' => ?_
      rw [if_pos (wanted_plain rfl)]
      unfold Oper.wp
      simp only [execOp]
      go_simp
      exact hK' _ _ ⟨_, rfl, Below.refl _ _, rfl⟩
     | 8, _ =>
      obtain ⟨s9, r9, _⟩ := hw 7 (by omega) (by kernel_rfl)
      have e9 : v 7 = .bool true := r9
      rw [e9] at s9
      replace s9 : a.tmps[10]? = some (.bool true) := s9
      have cc0 := (hb.cell (p := ⟨w.heap.size, 0, none⟩) HL.out).trans K0.out
      have cc1 := (hb.cell (p := ⟨w.heap.size, 1, none⟩) HL.out).trans K1.out
      refine wpOp_step rfl fun K' hK' => ?_
      rw [if_pos (wanted_on rfl rfl rfl s9 rfl)]
      unfold Oper.wp
      simp only [execOp]
      go_simp
      exact hK' _ _ ⟨_, rfl, Below.refl _ _, rfl⟩
     | 9, _ =>
      obtain ⟨s9, r9, _⟩ := hw 7 (by omega) (by kernel_rfl)
      have e9 : v 7 = .bool true := r9
      rw [e9] at s9
      replace s9 : a.tmps[10]? = some (.bool true) := s9
      refine gw_c rfl (wanted_on rfl rfl rfl s9 rfl) 70  _ _ rfl (fun v w => by go_simp)  ?_
      with_reducible refine (CL.out _ w9).mono ?_
      rintro e w3 ⟨rfl, hb3⟩
      exact ⟨_, rfl, _, rfl, hb3, rfl⟩
     | 10, _ =>
      obtain ⟨s0, r0, _⟩ := hw 8 (by omega) (by kernel_rfl)
      have e0 : v 8 = .agg #[.string p, .string n] := r0
      rw [e0] at s0
      replace s0 : a.tmps[11]? = some (.agg #[.string p, .string n]) := s0
      obtain ⟨s1, r1, _⟩ := hw 9 (by omega) (by kernel_rfl)
      have e1 : v 9 = .agg #[.string ⟨#[108, 105, 115, 112]⟩, .string ⟨#[116]⟩] := r1
      rw [e1] at s1
      replace s1 : a.tmps[12]? = some (.agg #[.string ⟨#[108, 105, 115, 112]⟩, .string ⟨#[116]⟩]) := s1
      obtain ⟨s9, r9, _⟩ := hw 7 (by omega) (by kernel_rfl)
      have e9 : v 7 = .bool true := r9
      rw [e9] at s9
      replace s9 : a.tmps[10]? = some (.bool true) := s9
      refine wpOp_step rfl fun K' hK' => ?_
      rw [if_pos (wanted_on rfl rfl rfl s9 rfl)]
      unfold Oper.wp
      simp only [execOp]
      go_simp
      try simp only [hp, if_true, if_false]
      exact hK' _ _ ⟨_, rfl, Below.refl _ _, rfl⟩
     | 11, _ =>
      obtain ⟨s0, r0, _⟩ := hw 7 (by omega) (by kernel_rfl)
      have e0 : v 7 = .bool true := r0
      rw [e0] at s0
      replace s0 : a.tmps[10]? = some (.bool true) := s0
      obtain ⟨s1, r1, _⟩ := hw 10 (by omega) (by kernel_rfl)
      have e1 : v 10 = .bool true := r1
      rw [e1] at s1
      replace s1 : a.tmps[13]? = some (.bool true) := s1
      refine wpOp_step rfl fun K' hK' => ?_
      rw [if_pos (wanted_plain rfl)]
      unfold Oper.wp
      simp only [execOp]
      go_simp
      exact hK' _ _ ⟨_, rfl, Below.refl _ _, rfl⟩
    case done =>
     intro a w9 v lo hi' hdef hsz hoth hb hj hap
     obtain ⟨_, hv11, _, _⟩ := hj 11 (by omega)
     have ha := eq_puts hdef hsz hoth (fun i hi => (hj i hi).1)
     subst ha
     clear hj hoth hdef hsz hap
     change v 11 = _ at hv11
     simp only [puts, List.getD_cons_zero, List.getD_cons_succ, hv11]
     generalize v 0 = v0
     generalize v 1 = v1
     generalize v 2 = v2
     generalize v 3 = v3
     generalize v 4 = v4
     generalize v 5 = v5
     generalize v 6 = v6
     generalize v 7 = v7
     generalize v 8 = v8
     generalize v 9 = v9
     generalize v 10 = v10
     clear hv11
     simp only [Act.put, List.setIfInBounds_toArray, List.set_cons_zero, List.set_cons_succ]
     show wpList _ _ _ [_] _ _

     have HB := hI (HA.out.trans (hb.mono HA.out.size))
     clear hb
     go_wp2_with fail
     go_ret
     exact ⟨rfl, HB.out⟩
theorem RunT.own {B g lo hi : Nat} {w W w' : World} (h1 : Below B w W) (hB : B ≤ W.heap.size) (hg : B ≤ g) (h : RunT W w' g lo hi) : Below B w w' :=
 ⟨h.1.os.trans h1.os, h.1.tape.trans h1.tape, h.1.output.trans h1.output, Nat.le_trans h1.size h.1.size, fun b hlt => (h.1.block b (by omega) (fun e => by injection e with e; omega)).trans (h1.block b hlt)⟩
theorem areEqualT (d : Nat) (hd : d ≤ 1000) (t t' : Tm) (b k b' k' : Nat) (cs cs' : List Value) (w : World) (S : Nat → Prop) (hS : In S w) (h : TmP w S t b k cs) (h' : TmP w S t' b' k' cs') (hb : t.bd d) (hb' : t'.bd d) (hn : t.nodes ≤ 3000) :
 Calls Tryz.prog 81 #[.pointer (some ⟨b, k, none⟩), .pointer (some ⟨b', k', none⟩)] w (RetB w (eqT t t')) := by
 have hA := below_alT w (.cells #[.int .i64 0, .map none] 133)
 have hc : CtAt (w.alloc (.cells #[.int .i64 0, .map none] 133)) w.heap.size 0 := heap_alloc_new w _
 have hg : ¬ S w.heap.size := fun hs => by have := hS _ hs; omega
 have C := agreeT d hd S w.heap.size hg t t' b k b' k' cs cs' (w.alloc (.cells #[.int .i64 0, .map none] 133)) 0 (h.below hS hA) (h'.below hS hA) hb hb' (hS.later hA.size) hc (by omega)
 have C2 := C.mono (fun e w' (hr : e = .returned (.bool (eqT t t')) ∧ RunT (w.alloc (.cells #[.int .i64 0, .map none] 133)) w' w.heap.size 0 (0 + t.nodes)) => (show RetB w (eqT t t') e w' from ⟨hr.1, hr.2.own hA hA.size (Nat.le_refl _)⟩))
 generalize eqT t t' = r at C2 ⊢
 replace C2 := hI C2
 clear C h h' hb hb' hn hS hg hc hA
 go_enter Tryz.func81, Tryz.ntmps81
 go_wp2_with fail
 refine C2.out.mono ?_
 rintro e w1 ⟨rfl, hb⟩
 have HB := hI hb
 clear hb
 go_wp2
 go_ret
 exact ⟨rfl, HB.out⟩
theorem equalT (d : Nat) (hd : d ≤ 1000) (t t' : Tm) (cs cs' : List Value) (w : World) (S : Nat → Prop) (hS : In S w) (h : TmAt w S t cs) (h' : TmAt w S t' cs') (hb : t.bd d) (hb' : t'.bd d) (hn : t.nodes ≤ 3000) :
 Calls Tryz.prog 36 #[vTm cs, vTm cs'] w (RetB w (eqT t t')) := by
 have h1 := h
 have h2 := h'
 obtain ⟨x0, x1, x2, x3, x4, x5, x6, A, c, rfl, _, _⟩ := h1.eleven
 obtain ⟨y0, y1, y2, y3, y4, y5, y6, A', c', rfl, _, _⟩ := h2.eleven
 have hA : Below w.heap.size w ((w.alloc (.cells #[.int .i64 t.kd, .string t.nm.1, .string t.nm.2, x0, x1, x2, x3, x4, x5, x6, .slice A t.args.length c] 35)).alloc (.cells #[.int .i64 t'.kd, .string t'.nm.1, .string t'.nm.2, y0, y1, y2, y3, y4, y5, y6, .slice A' t'.args.length c'] 35)) := Below.alloc (Below.alloc (Below.refl _ _) (Nat.le_refl _) _) (by simp) _
 have B1 : TB ((w.alloc (.cells #[.int .i64 t.kd, .string t.nm.1, .string t.nm.2, x0, x1, x2, x3, x4, x5, x6, .slice A t.args.length c] 35)).alloc (.cells #[.int .i64 t'.kd, .string t'.nm.1, .string t'.nm.2, y0, y1, y2, y3, y4, y5, y6, .slice A' t'.args.length c'] 35)) w.heap.size [.int .i64 t.kd, .string t.nm.1, .string t.nm.2, x0, x1, x2, x3, x4, x5, x6, .slice A t.args.length c] := heap_alloc2_old w _ _
 have B2 : TB ((w.alloc (.cells #[.int .i64 t.kd, .string t.nm.1, .string t.nm.2, x0, x1, x2, x3, x4, x5, x6, .slice A t.args.length c] 35)).alloc (.cells #[.int .i64 t'.kd, .string t'.nm.1, .string t'.nm.2, y0, y1, y2, y3, y4, y5, y6, .slice A' t'.args.length c'] 35)) (w.heap.size + 1) [.int .i64 t'.kd, .string t'.nm.1, .string t'.nm.2, y0, y1, y2, y3, y4, y5, y6, .slice A' t'.args.length c'] := heap_alloc2_new w _ _
 have hz : ((w.alloc (.cells #[.int .i64 t.kd, .string t.nm.1, .string t.nm.2, x0, x1, x2, x3, x4, x5, x6, .slice A t.args.length c] 35)).alloc (.cells #[.int .i64 t'.kd, .string t'.nm.1, .string t'.nm.2, y0, y1, y2, y3, y4, y5, y6, .slice A' t'.args.length c'] 35)).heap.size = w.heap.size + 2 := by simp
 have C := areEqualT d hd t t' w.heap.size 0 (w.heap.size + 1) 0 _ _ ((w.alloc (.cells #[.int .i64 t.kd, .string t.nm.1, .string t.nm.2, x0, x1, x2, x3, x4, x5, x6, .slice A t.args.length c] 35)).alloc (.cells #[.int .i64 t'.kd, .string t'.nm.1, .string t'.nm.2, y0, y1, y2, y3, y4, y5, y6, .slice A' t'.args.length c'] 35)) (Has ((w.alloc (.cells #[.int .i64 t.kd, .string t.nm.1, .string t.nm.2, x0, x1, x2, x3, x4, x5, x6, .slice A t.args.length c] 35)).alloc (.cells #[.int .i64 t'.kd, .string t'.nm.1, .string t'.nm.2, y0, y1, y2, y3, y4, y5, y6, .slice A' t'.args.length c'] 35))) (In.has _) (B1.p ((h.below hS hA).more fun q hq => Nat.lt_of_lt_of_le (hS q hq) hA.size) (by show _ < _; omega)) (B2.p ((h'.below hS hA).more fun q hq => Nat.lt_of_lt_of_le (hS q hq) hA.size) (by show _ < _; omega)) hb hb' hn
 unfold vTm
 generalize eqT t t' = r at C ⊢
 have HA := hI hA
 replace C := hI C
 clear h h' hb hb' hn hS B1 B2 hz hA
 generalize t.kd = kd at *
 generalize t'.kd = kd' at *
 go_enter Tryz.func36, Tryz.ntmps36
 go_wp2_with fail
 refine C.out.mono ?_
 rintro e w1 ⟨rfl, hb⟩
 have HB := hI (chain2 HA.out hb (Nat.le_refl _))
 clear hb
 go_wp2
 go_ret
 exact ⟨rfl, HB.out⟩
theorem nodesT (t : Tm) (cs : List Value) (w : World) (S : Nat → Prop) (hS : In S w) (h : TmAt w S t cs) (hn : t.nodes ≤ 3000) :
 Calls Tryz.prog 57 #[vTm cs] w (RetI w t.nodes) := by
 have h1 := h
 obtain ⟨x0, x1, x2, x3, x4, x5, x6, A, c, rfl, _, _⟩ := h1.eleven
 have hA := below_alT w (.cells #[.int .i64 t.kd, .string t.nm.1, .string t.nm.2, x0, x1, x2, x3, x4, x5, x6, .slice A t.args.length c] 35)
 have B1 := TB.new w [.int .i64 t.kd, .string t.nm.1, .string t.nm.2, x0, x1, x2, x3, x4, x5, x6, .slice A t.args.length c]
 have C := countT t w.heap.size 0 _ 0 (w.alloc (.cells #[.int .i64 t.kd, .string t.nm.1, .string t.nm.2, x0, x1, x2, x3, x4, x5, x6, .slice A t.args.length c] 35)) (B1.p ((h.below hS hA).more fun q hq => Nat.lt_of_lt_of_le (hS q hq) hA.size) (by show _ < _; simp)) (by omega) (by omega)
 have e0 : (0 : Int) + (t.nodes : Int) = t.nodes := by omega
 rw [e0] at C
 unfold vTm
 generalize (t.nodes : Int) = r at C ⊢
 have HA := hI hA
 replace C := hI C
 clear h hn hS B1 hA e0
 generalize t.kd = kd at *
 go_enter Tryz.func57, Tryz.ntmps57
 go_wp2_with fail
 refine C.out.mono ?_
 rintro e w1 ⟨rfl, hb⟩
 have HB := hI (chain2 HA.out hb (Nat.le_refl _))
 clear hb
 go_wp2
 go_ret
 exact ⟨rfl, HB.out⟩
theorem depthStep (t : Tm) (b k : Nat) (cs : List Value) (w : World) (h : TmP w (Has w) t b k cs) (hn : t.nodes ≤ 3000)
 (ih : ∀ x ∈ t.args, ∀ (b1 k1 : Nat) (cs1 : List Value) (W : World), TmP W (Has W) x b1 k1 cs1 → Calls Tryz.prog 122 #[.pointer none, .pointer (some ⟨b1, k1, none⟩)] W (RetI W x.dep)) :
 Calls Tryz.prog 122 #[.pointer none, .pointer (some ⟨b, k, none⟩)] w (RetI w t.dep) := by
 have hA : Below w.heap.size w ((w.alloc (.cells #[.pointer none] 148)).alloc (.cells #[.pointer (some ⟨b, k, none⟩)] 91)) := Below.alloc (Below.alloc (Below.refl _ _) (Nat.le_refl _) _) (by simp) _
 have hP := (h.below (In.has w) hA).more (fun q hq => Nat.lt_of_lt_of_le hq hA.size)
 have hbm : ((w.alloc (.cells #[.pointer none] 148)).alloc (.cells #[.pointer (some ⟨b, k, none⟩)] 91)).cell? ⟨w.heap.size, 0, none⟩ = some (.pointer none) := by rw [cell_of_row _ _ _ _ _ _ (heap_alloc2_old w _ _)]; rfl
 have hbt : ((w.alloc (.cells #[.pointer none] 148)).alloc (.cells #[.pointer (some ⟨b, k, none⟩)] 91)).cell? ⟨w.heap.size + 1, 0, none⟩ = some (.pointer (some ⟨b, k, none⟩)) := by rw [cell_of_row _ _ _ _ _ _ (heap_alloc2_new w _ _)]; rfl
 have hz : ((w.alloc (.cells #[.pointer none] 148)).alloc (.cells #[.pointer (some ⟨b, k, none⟩)] 91)).heap.size = w.heap.size + 2 := by simp
 obtain ⟨x0, x1, x2, x3, x4, x5, x6, A, c, _, _, ha, l0, l1, l2, l3, l4, l5, l6, l7, l8, l9, l10⟩ := hP.cells
 have hlb : b < ((w.alloc (.cells #[.pointer none] 148)).alloc (.cells #[.pointer (some ⟨b, k, none⟩)] 91)).heap.size := hP.1.1
 clear l1 l2 l3 l4 l5 l6 l7 l8 l9 h hP
 cases t with
 | var s =>
  change _ = some (Value.int .i64 1) at l0
  have hr : Hid (((Tm.var s).dep : Int) = 1) := rfl
  rw [hr.out]
  have HA := hI hA
  clear hA ha hn ih l10
  go_enter Tryz.func122, Tryz.ntmps122
  go_wp2
  go_ret
  exact ⟨rfl, HA.out⟩
 | con o =>
  change _ = some (Value.int .i64 2) at l0
  have hr : Hid (((Tm.con o).dep : Int) = 1) := rfl
  rw [hr.out]
  have HA := hI hA
  clear hA ha hn ih l10
  go_enter Tryz.func122, Tryz.ntmps122
  go_wp2
  go_ret
  exact ⟨rfl, HA.out⟩
 | app s l =>
  change _ = some (Value.int .i64 3) at l0
  change _ = some (Value.slice A l.length c) at l10
  change ArgsAt _ _ l A c at ha
  have hnl : 1 + Tm.nodesL l ≤ 3000 := hn
  have hdl := Tm.depL_nodes l
  have er : (((Tm.app s l).dep : Nat) : Int) = 1 + (Tm.depL l : Int) := by simp only [Tm.dep]; omega
  rw [er]
  have PC0 : ∀ W, Below ((w.alloc (.cells #[.pointer none] 148)).alloc (.cells #[.pointer (some ⟨b, k, none⟩)] 91)).heap.size ((w.alloc (.cells #[.pointer none] 148)).alloc (.cells #[.pointer (some ⟨b, k, none⟩)] 91)) W → Calls Tryz.prog 104 #[.slice A l.length c] W (fun e w' => e = .returned (.agg (plV A l.length)) ∧ Below W.heap.size W w') := fun W hb => placeT l A c W _ (ha.below (In.has _) hb)
  obtain ⟨p0, p1, ep, ho0, ho1⟩ : ∃ p0 p1, plV A l.length = #[p0, p1] ∧ p0.oneCell' = true ∧ p1.oneCell' = true := by unfold plV; split <;> exact ⟨_, _, rfl, rfl, rfl⟩
  rw [ep] at PC0
  have HR : Hid (0 ≤ (Tm.depL l : Int) ∧ (Tm.depL l : Int) ≤ 3000) := ⟨by omega, by omega⟩
  have RC : Hid (∀ W, Below ((w.alloc (.cells #[.pointer none] 148)).alloc (.cells #[.pointer (some ⟨b, k, none⟩)] 91)).heap.size ((w.alloc (.cells #[.pointer none] 148)).alloc (.cells #[.pointer (some ⟨b, k, none⟩)] 91)) W → Calls Tryz.prog 152 #[.pointer none, .agg #[p0, p1], .func (.func 153) #[] #[.pointer (some ⟨w.heap.size + 1, 0, none⟩), .pointer (some ⟨w.heap.size, 0, none⟩)]] W (RetI W (Tm.depL l))) := fun W hw =>
   recallI p0 p1 _ _ (Tm.depL l) W ho0 ho1 fun W' hw' => by
    have hc := chain2 hw hw' (Nat.le_refl _)
    exact depth1 l b k (w.heap.size + 1) w.heap.size A c W' ((hc.cell (p := ⟨w.heap.size + 1, 0, none⟩) (by show w.heap.size + 1 < _; omega)).trans hbt) ((hc.cell (p := ⟨w.heap.size, 0, none⟩) (by show w.heap.size < _; omega)).trans hbm) ((hc.cell (p := ⟨b, k + 10, none⟩) hlb).trans l10) ((ha.below (In.has _) hc).more fun q hq => Nat.lt_of_lt_of_le hq hc.size) (by omega) (fun x hx b1 k1 cs1 W3 h3 => ih x hx b1 k1 cs1 W3 h3)
  generalize (Tm.depL l : Int) = r at RC HR ⊢
  have PC := hI PC0
  have HA := hI hA
  have HT0 := hI hbt
  have HM0 := hI hbm
  have L10 := hI l10
  have HLB := hI hlb
  have HMl : Hid (w.heap.size < ((w.alloc (.cells #[.pointer none] 148)).alloc (.cells #[.pointer (some ⟨b, k, none⟩)] 91)).heap.size) := (by show _ < _; omega)
  have HTl : Hid (w.heap.size + 1 < ((w.alloc (.cells #[.pointer none] 148)).alloc (.cells #[.pointer (some ⟨b, k, none⟩)] 91)).heap.size) := (by show _ < _; omega)
  clear PC0 hA l10 ha hn hnl hdl er ih hlb ep ho0 ho1 hz
  go_enter Tryz.func122, Tryz.ntmps122
  go_wp2_with fail
  generalize ((w.alloc (.cells #[.pointer none] 148)).alloc (.cells #[.pointer (some ⟨b, k, none⟩)] 91)) = W at *
  clear hbt hbm l0
  refine wp_region_grow (l := _) 9 (by kernel_rfl) (by kernel_rfl) (fun i => [10, 11, 12, 13, 14, 15, 16, 17, 18].getD i 0) (LR [LV (.pointer none), LV (.pointer (some ⟨b, k, none⟩)), LV (.pointer (some ⟨b, k, none⟩)), LV (.pointer (some ⟨b, k + 10, none⟩)), LV (.slice A l.length c), LV (.agg #[p0, p1]), LV (.func (.func 153) #[] #[.pointer (some ⟨w.heap.size + 1, 0, none⟩), .pointer (some ⟨w.heap.size, 0, none⟩)]), LV (.int .i64 (r)), LV (.int .i64 (1 + r))]) (LR_mono ⟨mLV _, mLV _, mLV _, mLV _, mLV _, mLV _, mLV _, mLV _, mLV _, trivial⟩) (by
   intro i j hi hj h
   exact inj_getD [10, 11, 12, 13, 14, 15, 16, 17, 18] (by decide) i j hi hj h) (by
   intro i hi
   exact lt_getD 19 [10, 11, 12, 13, 14, 15, 16, 17, 18] (by decide) i hi) ?step ?done
  case step =>
   intro ii hii a w9 v lo hi' hoth hb hw
   have sl2 : a.tmps[2]? = some (.pointer (some ⟨w.heap.size, 0, none⟩)) := (hoth 2 (fun j hj => ne_getD 2 _ (by decide) j hj)).trans rfl
   have sl3 : a.tmps[3]? = some (.pointer (some ⟨w.heap.size + 1, 0, none⟩)) := (hoth 3 (fun j hj => ne_getD 3 _ (by decide) j hj)).trans rfl
   match ii, hii with
   | 0, _ =>
    have cc := (hb.cell (p := ⟨w.heap.size, 0, none⟩) HMl.out).trans HM0.out
    refine wpOp_step rfl fun K' hK' => ?_
    rw [if_pos (wanted_plain rfl)]
    unfold Oper.wp
    simp only [execOp]
    go_simp
    exact hK' _ _ ⟨_, rfl, Below.refl _ _, rfl⟩
   | 1, _ =>
    have cc := (hb.cell (p := ⟨w.heap.size + 1, 0, none⟩) HTl.out).trans HT0.out
    refine wpOp_step rfl fun K' hK' => ?_
    rw [if_pos (wanted_plain rfl)]
    unfold Oper.wp
    simp only [execOp]
    go_simp
    exact hK' _ _ ⟨_, rfl, Below.refl _ _, rfl⟩
   | 2, _ =>
    obtain ⟨s0, r0, _⟩ := hw 1 (by omega) (by kernel_rfl)
    have e0 : v 1 = .pointer (some ⟨b, k, none⟩) := r0
    rw [e0] at s0
    replace s0 : a.tmps[11]? = some (.pointer (some ⟨b, k, none⟩)) := s0
    refine wpOp_step rfl fun K' hK' => ?_
    rw [if_pos (wanted_plain rfl)]
    unfold Oper.wp
    simp only [execOp]
    go_simp
    exact hK' _ _ ⟨_, rfl, Below.refl _ _, rfl⟩
   | 3, _ =>
    obtain ⟨s0, r0, _⟩ := hw 2 (by omega) (by kernel_rfl)
    have e0 : v 2 = .pointer (some ⟨b, k, none⟩) := r0
    rw [e0] at s0
    replace s0 : a.tmps[12]? = some (.pointer (some ⟨b, k, none⟩)) := s0
    refine wpOp_step rfl fun K' hK' => ?_
    rw [if_pos (wanted_plain rfl)]
    unfold Oper.wp
    simp only [execOp]
    go_simp
    exact hK' _ _ ⟨_, rfl, Below.refl _ _, rfl⟩
   | 4, _ =>
    obtain ⟨s0, r0, _⟩ := hw 3 (by omega) (by kernel_rfl)
    have e0 : v 3 = .pointer (some ⟨b, k + 10, none⟩) := r0
    rw [e0] at s0
    replace s0 : a.tmps[13]? = some (.pointer (some ⟨b, k + 10, none⟩)) := s0
    have cc := (hb.cell (p := ⟨b, k + 10, none⟩) HLB.out).trans L10.out
    refine wpOp_step rfl fun K' hK' => ?_
    rw [if_pos (wanted_plain rfl)]
    unfold Oper.wp
    simp only [execOp]
    go_simp
    exact hK' _ _ ⟨_, rfl, Below.refl _ _, rfl⟩
   | 5, _ =>
    obtain ⟨s0, r0, _⟩ := hw 4 (by omega) (by kernel_rfl)
    have e0 : v 4 = .slice A l.length c := r0
    rw [e0] at s0
    replace s0 : a.tmps[14]? = some (.slice A l.length c) := s0
    refine gw_t rfl (wanted_plain rfl) 104 14 _ _ rfl (fun v w => by go_simp) s0 ?_
    with_reducible refine (PC.out w9 hb).mono ?_
    rintro e w3 ⟨rfl, hb3⟩
    exact ⟨_, rfl, _, rfl, hb3, rfl⟩
   | 6, _ =>
    refine wpOp_step rfl fun K' hK' => ?_
    rw [if_pos (wanted_plain rfl)]
    unfold Oper.wp
    simp only [execOp]
    simp only [Instr.makeFunc]
    go_simp
    exact hK' _ _ ⟨_, rfl, Below.refl _ _, rfl⟩
   | 7, _ =>
    obtain ⟨s0, r0, _⟩ := hw 0 (by omega) (by kernel_rfl)
    have e0 : v 0 = .pointer none := r0
    rw [e0] at s0
    replace s0 : a.tmps[10]? = some (.pointer none) := s0
    obtain ⟨s1, r1, _⟩ := hw 5 (by omega) (by kernel_rfl)
    have e1 : v 5 = .agg #[p0, p1] := r1
    rw [e1] at s1
    replace s1 : a.tmps[15]? = some (.agg #[p0, p1]) := s1
    obtain ⟨s2, r2, _⟩ := hw 6 (by omega) (by kernel_rfl)
    have e2 : v 6 = .func (.func 153) #[] #[.pointer (some ⟨w.heap.size + 1, 0, none⟩), .pointer (some ⟨w.heap.size, 0, none⟩)] := r2
    rw [e2] at s2
    replace s2 : a.tmps[16]? = some (.func (.func 153) #[] #[.pointer (some ⟨w.heap.size + 1, 0, none⟩), .pointer (some ⟨w.heap.size, 0, none⟩)]) := s2
    refine gw_ttt rfl (wanted_plain rfl) 152 10 15 16 _ _ _ _ rfl (fun v u x w => by go_simp) s0 s1 s2 ?_
    with_reducible refine (RC.out w9 hb).mono ?_
    rintro e w3 ⟨rfl, hb3⟩
    exact ⟨_, rfl, _, rfl, hb3, rfl⟩
   | 8, _ =>
    obtain ⟨s0, r0, _⟩ := hw 7 (by omega) (by kernel_rfl)
    have e0 : v 7 = .int .i64 (r) := r0
    rw [e0] at s0
    replace s0 : a.tmps[17]? = some (.int .i64 (r)) := s0
    have hr0 := HR.out.1
    have hr1 := HR.out.2
    have hw1 : IntKind.i64.wrap (1 + r) = 1 + r := IntWalk.i64_in _ (by omega)
    refine wpOp_step rfl fun K' hK' => ?_
    rw [if_pos (wanted_plain rfl)]
    unfold Oper.wp
    simp only [execOp]
    go_simp
    try rw [hw1]
    exact hK' _ _ ⟨_, rfl, Below.refl _ _, rfl⟩
  case done =>
   intro a w9 v lo hi' hdef hsz hoth hb hj hap
   obtain ⟨_, hv8, _, _⟩ := hj 8 (by omega)
   have ha := eq_puts hdef hsz hoth (fun i hi => (hj i hi).1)
   subst ha
   clear hj hoth hdef hsz hap
   change v 8 = _ at hv8
   simp only [puts, List.getD_cons_zero, List.getD_cons_succ, hv8]
   generalize v 0 = v0
   generalize v 1 = v1
   generalize v 2 = v2
   generalize v 3 = v3
   generalize v 4 = v4
   generalize v 5 = v5
   generalize v 6 = v6
   generalize v 7 = v7
   clear hv8
   simp only [Act.put, List.setIfInBounds_toArray, List.set_cons_zero, List.set_cons_succ]
   show wpList _ _ _ [_] _ _
   have HB := hI (HA.out.trans (hb.mono HA.out.size))
   clear hb RC PC
   go_wp2
   go_ret
   exact ⟨rfl, HB.out⟩
theorem depthT : ∀ (t : Tm) (b k : Nat) (cs : List Value) (w : World), TmP w (Has w) t b k cs → t.nodes ≤ 3000 → Calls Tryz.prog 122 #[.pointer none, .pointer (some ⟨b, k, none⟩)] w (RetI w t.dep) := by
 intro t
 induction t using Tm.ind with
 | hv s => intro b k cs w h hn; exact depthStep _ b k cs w h hn (fun x hx => by simp [Tm.args] at hx)
 | hc o => intro b k cs w h hn; exact depthStep _ b k cs w h hn (fun x hx => by simp [Tm.args] at hx)
 | ha s l ih => intro b k cs w h hn; exact depthStep _ b k cs w h hn (fun x hx b1 k1 cs1 W h1 => ih x hx b1 k1 cs1 W h1 (by have := Tm.nodes_mem (show x ∈ l from hx); have : (Tm.app s l).nodes = 1 + Tm.nodesL l := (by unfold Tm.nodes; rfl); omega))
theorem depthTop (t : Tm) (cs : List Value) (w : World) (S : Nat → Prop) (hS : In S w) (h : TmAt w S t cs) (hn : t.nodes ≤ 3000) (hd : t.dep ≤ 200) :
 Calls Tryz.prog 94 #[vTm cs] w (RetI w t.dep) := by
 have h1 := h
 obtain ⟨x0, x1, x2, x3, x4, x5, x6, A, c, rfl, _, _⟩ := h1.eleven
 have hA := below_alT w (.cells #[.int .i64 t.kd, .string t.nm.1, .string t.nm.2, x0, x1, x2, x3, x4, x5, x6, .slice A t.args.length c] 35)
 have B1 := TB.new w [.int .i64 t.kd, .string t.nm.1, .string t.nm.2, x0, x1, x2, x3, x4, x5, x6, .slice A t.args.length c]
 have hP := B1.p ((h.below hS hA).more fun q hq => Nat.lt_of_lt_of_le (hS q hq) hA.size) (show Has (w.alloc (.cells #[.int .i64 t.kd, .string t.nm.1, .string t.nm.2, x0, x1, x2, x3, x4, x5, x6, .slice A t.args.length c] 35)) w.heap.size by show _ < _; simp)
 have M := memForI 200 t w.heap.size 0 _ (w.alloc (.cells #[.int .i64 t.kd, .string t.nm.1, .string t.nm.2, x0, x1, x2, x3, x4, x5, x6, .slice A t.args.length c] 35)) hP hn
 have D : Hid (∀ W, Below (w.alloc (.cells #[.int .i64 t.kd, .string t.nm.1, .string t.nm.2, x0, x1, x2, x3, x4, x5, x6, .slice A t.args.length c] 35)).heap.size (w.alloc (.cells #[.int .i64 t.kd, .string t.nm.1, .string t.nm.2, x0, x1, x2, x3, x4, x5, x6, .slice A t.args.length c] 35)) W → Calls Tryz.prog 122 #[.pointer none, .pointer (some ⟨w.heap.size, 0, none⟩)] W (RetI W t.dep)) := fun W hw => depthT t w.heap.size 0 _ W ((hP.below (In.has _) hw).more fun q hq => Nat.lt_of_lt_of_le hq hw.size) hn
 have hd2 : (t.dep : Int) ≤ 201 := by omega
 unfold vTm
 generalize (t.dep : Int) = r at D hd2 ⊢
 have HA := hI hA
 replace M := hI M
 clear h hn hS B1 hA hd hP
 generalize t.kd = kd at *
 go_enter Tryz.func94, Tryz.ntmps94
 go_wp2_with fail
 refine M.out.mono ?_
 rintro e w1 ⟨rfl, hb⟩
 have C := hI (D.out _ hb)
 have HB := hI (chain2 HA.out hb (Nat.le_refl _))
 clear hb D M
 go_wp2_with fail
 refine C.out.mono ?_
 rintro e w2 ⟨rfl, hb⟩
 have HC := hI (chain2 HB.out hb (Nat.le_refl _))
 clear hb
 go_wp2
 go_ret
 exact ⟨ret_int (Int.min_eq_left hd2), HC.out⟩
theorem isZeroT (w : World) : Calls Tryz.prog 124 #[.agg #[.int .i64 0, .string ⟨#[]⟩, .string ⟨#[]⟩, .string ⟨#[]⟩, .string ⟨#[]⟩, .string ⟨#[]⟩, .slice none 0 0]] w (RetB w true) := by
 have HA := hI (below_alT w (.cells #[.int .i64 0, .string ⟨#[]⟩, .string ⟨#[]⟩, .string ⟨#[]⟩, .string ⟨#[]⟩, .string ⟨#[]⟩, .slice none 0 0] 33))
 have hg := heap_alloc_new w (.cells #[.int .i64 0, .string ⟨#[]⟩, .string ⟨#[]⟩, .string ⟨#[]⟩, .string ⟨#[]⟩, .string ⟨#[]⟩, .slice none 0 0] 33)
 have HC : Hid (∀ W, Calls Tryz.prog 91 #[.agg #[.int .i64 0, .string ⟨#[]⟩, .string ⟨#[]⟩, .string ⟨#[]⟩, .string ⟨#[]⟩, .string ⟨#[]⟩, .slice none 0 0], .agg #[.int .i64 0, .string ⟨#[]⟩, .string ⟨#[]⟩, .string ⟨#[]⟩, .string ⟨#[]⟩, .string ⟨#[]⟩, .slice none 0 0]] W (RetB W true)) := fun W => equalPZ W
 have k0 : (w.alloc (.cells #[.int .i64 0, .string ⟨#[]⟩, .string ⟨#[]⟩, .string ⟨#[]⟩, .string ⟨#[]⟩, .string ⟨#[]⟩, .slice none 0 0] 33)).cell? ⟨w.heap.size, 0, none⟩ = some (.int .i64 0) := by rw [cell_of_row _ _ _ _ _ _ hg]; rfl
 have k1 : (w.alloc (.cells #[.int .i64 0, .string ⟨#[]⟩, .string ⟨#[]⟩, .string ⟨#[]⟩, .string ⟨#[]⟩, .string ⟨#[]⟩, .slice none 0 0] 33)).cell? ⟨w.heap.size, 1, none⟩ = some (.string ⟨#[]⟩) := by rw [cell_of_row _ _ _ _ _ _ hg]; rfl
 have k2 : (w.alloc (.cells #[.int .i64 0, .string ⟨#[]⟩, .string ⟨#[]⟩, .string ⟨#[]⟩, .string ⟨#[]⟩, .string ⟨#[]⟩, .slice none 0 0] 33)).cell? ⟨w.heap.size, 2, none⟩ = some (.string ⟨#[]⟩) := by rw [cell_of_row _ _ _ _ _ _ hg]; rfl
 have k3 : (w.alloc (.cells #[.int .i64 0, .string ⟨#[]⟩, .string ⟨#[]⟩, .string ⟨#[]⟩, .string ⟨#[]⟩, .string ⟨#[]⟩, .slice none 0 0] 33)).cell? ⟨w.heap.size, 3, none⟩ = some (.string ⟨#[]⟩) := by rw [cell_of_row _ _ _ _ _ _ hg]; rfl
 have k4 : (w.alloc (.cells #[.int .i64 0, .string ⟨#[]⟩, .string ⟨#[]⟩, .string ⟨#[]⟩, .string ⟨#[]⟩, .string ⟨#[]⟩, .slice none 0 0] 33)).cell? ⟨w.heap.size, 4, none⟩ = some (.string ⟨#[]⟩) := by rw [cell_of_row _ _ _ _ _ _ hg]; rfl
 have k5 : (w.alloc (.cells #[.int .i64 0, .string ⟨#[]⟩, .string ⟨#[]⟩, .string ⟨#[]⟩, .string ⟨#[]⟩, .string ⟨#[]⟩, .slice none 0 0] 33)).cell? ⟨w.heap.size, 5, none⟩ = some (.string ⟨#[]⟩) := by rw [cell_of_row _ _ _ _ _ _ hg]; rfl
 have k6 : (w.alloc (.cells #[.int .i64 0, .string ⟨#[]⟩, .string ⟨#[]⟩, .string ⟨#[]⟩, .string ⟨#[]⟩, .string ⟨#[]⟩, .slice none 0 0] 33)).cell? ⟨w.heap.size, 6, none⟩ = some (.slice none 0 0) := by rw [cell_of_row _ _ _ _ _ _ hg]; rfl
 clear hg
 go_enter Tryz.func124, Tryz.ntmps124
 go_wp2_with fail
 refine (HC.out _).mono ?_
 rintro e w1 ⟨rfl, hb1⟩
 have HB := hI (HA.out.trans (hb1.mono HA.out.size))
 clear hb1 k0 k1 k2 k3 k4 k5 k6
 go_wp2_with fail
 go_ret
 exact ⟨rfl, HB.out⟩
mutual
def wfT : Tm → Bool
 | .var s => vOkT s.1 s.2
 | .con _ => true
 | .app s l => Sy.symOk s.1 s.2 && (decide (l.length ≤ 8) && wfTs l)
def wfTs : List Tm → Bool
 | [] => true
 | t :: l => wfT t && wfTs l
end
theorem wfTs_drop {l : List Tm} {i : Nat} (hi : i < l.length) : wfTs (l.drop i) = (wfT l[i] && wfTs (l.drop (i + 1))) := by
 rw [List.drop_eq_getElem_cons hi]; conv => lhs; unfold wfTs
def WfW (W wo : World) (l : List Tm) (i : Nat) (R : Bool) : Prop := wfTs (l.drop i) = R ∧ Below W.heap.size W wo
theorem areWfT (l : List Tm) (A : Option Addr) (c : Nat) (w : World) (S : Nat → Prop) (hS : In S w) (ha : ArgsAt w S l A c) (hn : l.length ≤ 3000)
 (ke : ∀ x ∈ l, ∀ (W : World) (b k : Nat) (cs : List Value), Below w.heap.size w W → TmP W S x b k cs → Calls Tryz.prog 95 #[.pointer (some ⟨b, k, none⟩)] W (RetB W (wfT x))) :
 Calls Tryz.prog 127 #[.slice A l.length c] w (RetB w (wfTs l)) := by
 obtain ⟨L, hL⟩ : ∃ L, l.length = L := ⟨_, rfl⟩
 obtain ⟨R, hR⟩ : ∃ R, wfTs l = R := ⟨_, rfl⟩
 have HA := hI ha
 have HS := hI hS
 have HI : Hid (∀ i (hi : i < l.length), ∀ (W : World) (b k : Nat) (cs : List Value), Below w.heap.size w W → TmP W S l[i] b k cs → Calls Tryz.prog 95 #[.pointer (some ⟨b, k, none⟩)] W (RetB W (wfT l[i]))) := fun i hi => ke _ (List.getElem_mem hi)
 have hc1 : L ≤ c := hL ▸ ha.1
 rw [hL] at hn
 rw [hR, hL]
 have h0 : Hid (WfW w w l 0 R) := ⟨by rw [List.drop_zero]; exact hR, Below.refl _ _⟩
 have HL := hI hL
 clear ha hS ke hL hR
 go_enter Tryz.func127, Tryz.ntmps127
 go_wp2_with fail
 go_loopw [6] (fun v wr => ∃ (i : Nat), i ≤ L ∧ v = .int .i64 (i : Int) ∧ Hid (WfW w wr l i R)) (fun v _ => L - (intOf v).toNat)
 case atStart => exact ⟨0, Nat.zero_le _, rfl, h0⟩
 case round =>
  clear h0
  obtain ⟨i, hiL, rfl, hE⟩ := hrel
  obtain ⟨wo, rfl⟩ : ∃ wo : World, wo = wr := ⟨_, rfl⟩
  obtain ⟨hf, hbel⟩ := hE.out
  by_cases hlt : i < L
  · have hil : i < l.length := by rw [HL.out]; exact hlt
    obtain ⟨b, o, cs, rfl, hP⟩ := HA.out.arg hil
    have call := hI (HI.out i hil wo b _ cs hbel (hP.below HS.out hbel))
    have hstep := wfTs_drop hil
    rw [hf] at hstep
    have HST := hI hstep
    have HB0 := hI hbel
    obtain ⟨r, hr⟩ : ∃ r, wfT l[i] = r := ⟨_, rfl⟩
    rw [hr] at HST call
    clear hP hf hE hbel hstep hr
    go_wp2_with fail
    refine call.out.mono ?_
    rintro e w3 ⟨rfl, hb3⟩
    have HB := hI (HB0.out.trans (hb3.mono HB0.out.size))
    clear hb3 call
    cases r with
    | true =>
     go_wp2_with fail
     go_roundw
     case rel => exact ⟨i + 1, by omega, by go_num, ⟨by have := HST.out; rw [this]; rfl, HB.out⟩⟩
     case measure => simp [intOf]; omega
    | false =>
     have hR : R = false := by rw [HST.out]; rfl
     subst hR
     go_wp2_with fail
     go_ret
     exact ⟨rfl, HB.out⟩
  · have hiL2 : i = L := by omega
    have hn : ¬ (i : Int) < L := by omega
    have hR : R = true := by
     rw [← hf, hiL2, ← HL.out, List.drop_length]
     unfold wfTs; rfl
    subst hR
    have HB := hI hbel
    clear hE hbel hf hlt
    go_wp2
    go_ret
    exact ⟨rfl, HB.out⟩
theorem wfVar (s : Nm) (b k : Nat) (cs : List Value) (w : World) (S : Nat → Prop) (hS : In S w) (h : TmP w S (.var s) b k cs) : Calls Tryz.prog 95 #[.pointer (some ⟨b, k, none⟩)] w (RetB w (wfT (.var s))) := by
 obtain ⟨x0, x1, x2, x3, x4, x5, x6, A, c, ecs, hv, ha, l0, l1, l2, l3, l4, l5, l6, l7, l8, l9, l10⟩ := h.cells
 have hlb : b < w.heap.size := hS b h.1.1
 have hx6 : [x0, x1, x2, x3, x4, x5, x6] = zO := hv
 unfold zO at hx6
 simp only [List.cons.injEq, and_true] at hx6
 obtain ⟨rfl, rfl, rfl, rfl, rfl, rfl, rfl⟩ := hx6
 change _ = some (Value.int .i64 1) at l0
 change _ = some (Value.string s.1) at l1
 change _ = some (Value.string s.2) at l2
 change _ = some (Value.slice A 0 c) at l10
 have HLB := hI hlb
 have HL0 := hI l0
 have HL1 := hI l1
 have HL2 := hI l2
 have HL3 := hI l3
 have HL4 := hI l4
 have HL5 := hI l5
 have HL6 := hI l6
 have HL7 := hI l7
 have HL8 := hI l8
 have HL9 := hI l9
 have HL10 := hI l10
 have CV := hI (isVarT s.1 s.2 w)
 have CZ : Hid (∀ W, Calls Tryz.prog 124 #[.agg #[.int .i64 0, .string ⟨#[]⟩, .string ⟨#[]⟩, .string ⟨#[]⟩, .string ⟨#[]⟩, .string ⟨#[]⟩, .slice none 0 0]] W (RetB W true)) := isZeroT
 have RES : Hid (wfT (.var s) = vOkT s.1 s.2) := (show _ = _ by unfold wfT; rfl)
 rw [RES.out]
 clear h hv ha ecs hS hlb RES
 generalize vOkT s.1 s.2 = r at *
 go_enter Tryz.func95, Tryz.ntmps95
 go_wp2_with fail
 refine CV.out.mono ?_
 rintro e w1 ⟨rfl, hb1⟩
 have k3 := (hb1.cell (p := ⟨b, k + 3, none⟩) HLB.out).trans HL3.out
 have k4 := (hb1.cell (p := ⟨b, k + 4, none⟩) HLB.out).trans HL4.out
 have k5 := (hb1.cell (p := ⟨b, k + 5, none⟩) HLB.out).trans HL5.out
 have k6 := (hb1.cell (p := ⟨b, k + 6, none⟩) HLB.out).trans HL6.out
 have k7 := (hb1.cell (p := ⟨b, k + 7, none⟩) HLB.out).trans HL7.out
 have k8 := (hb1.cell (p := ⟨b, k + 8, none⟩) HLB.out).trans HL8.out
 have k9 := (hb1.cell (p := ⟨b, k + 9, none⟩) HLB.out).trans HL9.out
 have k10 := (hb1.cell (p := ⟨b, k + 10, none⟩) HLB.out).trans HL10.out
 have HB1 := hI hb1
 clear hb1 l0 l1 l2 l3 l4 l5 l6 l7 l8 l9 l10 CV
 cases r with
 | false =>
  go_wp2_with fail
  go_ret
  exact ⟨rfl, HB1.out⟩
 | true =>
  go_wp2_with fail
  refine (CZ.out _).mono ?_
  rintro e w2 ⟨rfl, hb2⟩
  have hb := HB1.out.trans (hb2.mono HB1.out.size)
  have k10' := (hb.cell (p := ⟨b, k + 10, none⟩) HLB.out).trans HL10.out
  have HB := hI hb
  clear k3 k4 k5 k6 k7 k8 k9 k10 hb hb2
  go_wp2_with fail
  go_ret
  exact ⟨rfl, HB.out⟩
theorem wfCon (o : Ob) (b k : Nat) (cs : List Value) (w : World) (S : Nat → Prop) (hS : In S w) (h : TmP w S (.con o) b k cs) (hbd : o.bd 90) (hno : o.nodes ≤ 3000) : Calls Tryz.prog 95 #[.pointer (some ⟨b, k, none⟩)] w (RetB w (wfT (.con o))) := by
 obtain ⟨x0, x1, x2, x3, x4, x5, x6, A, c, ecs, hv, ha, l0, l1, l2, l3, l4, l5, l6, l7, l8, l9, l10⟩ := h.cells
 have hlb : b < w.heap.size := hS b h.1.1
 obtain ⟨p, ev, hp⟩ := hv
 change _ = some (Value.int .i64 2) at l0
 change _ = some (Value.string ⟨#[]⟩) at l1
 change _ = some (Value.string ⟨#[]⟩) at l2
 change _ = some (Value.slice A 0 c) at l10
 have CV := validP o p w S hbd hno hS hp
 unfold vO at CV
 rw [← ev] at CV
 replace CV := hI CV
 have HLB := hI hlb
 have HL0 := hI l0
 have HL1 := hI l1
 have HL2 := hI l2
 have HL3 := hI l3
 have HL4 := hI l4
 have HL5 := hI l5
 have HL6 := hI l6
 have HL7 := hI l7
 have HL8 := hI l8
 have HL9 := hI l9
 have HL10 := hI l10
 have RES : Hid (wfT (.con o) = true) := (show _ = _ by unfold wfT; rfl)
 rw [RES.out]
 clear h hp ev ha ecs hS hlb RES
 go_enter Tryz.func95, Tryz.ntmps95
 go_wp2_with fail
 refine CV.out.mono ?_
 rintro e w1 ⟨rfl, hb1⟩
 have k10 := (hb1.cell (p := ⟨b, k + 10, none⟩) HLB.out).trans HL10.out
 have HB1 := hI hb1
 clear hb1 l0 l1 l2 l3 l4 l5 l6 l7 l8 l9 l10 CV
 go_wp2_with fail
 go_ret
 exact ⟨rfl, HB1.out⟩
theorem wfApp (s : Nm) (l : List Tm) (b k : Nat) (cs : List Value) (w : World) (S : Nat → Prop) (hS : In S w) (h : TmP w S (.app s l) b k cs) (hn : l.length ≤ 3000)
 (ke : ∀ x ∈ l, ∀ (W : World) (b k : Nat) (cs : List Value), Below w.heap.size w W → TmP W S x b k cs → Calls Tryz.prog 95 #[.pointer (some ⟨b, k, none⟩)] W (RetB W (wfT x))) :
 Calls Tryz.prog 95 #[.pointer (some ⟨b, k, none⟩)] w (RetB w (wfT (.app s l))) := by
 obtain ⟨x0, x1, x2, x3, x4, x5, x6, A, c, ecs, hv, ha, l0, l1, l2, l3, l4, l5, l6, l7, l8, l9, l10⟩ := h.cells
 have hlb : b < w.heap.size := hS b h.1.1
 have hx6 : [x0, x1, x2, x3, x4, x5, x6] = zO := hv
 unfold zO at hx6
 simp only [List.cons.injEq, and_true] at hx6
 obtain ⟨rfl, rfl, rfl, rfl, rfl, rfl, rfl⟩ := hx6
 change _ = some (Value.int .i64 3) at l0
 change _ = some (Value.string s.1) at l1
 change _ = some (Value.string s.2) at l2
 change _ = some (Value.slice A l.length c) at l10
 change ArgsAt _ _ l A c at ha
 have HLB := hI hlb
 have HL0 := hI l0
 have HL1 := hI l1
 have HL2 := hI l2
 have HL3 := hI l3
 have HL4 := hI l4
 have HL5 := hI l5
 have HL6 := hI l6
 have HL7 := hI l7
 have HL8 := hI l8
 have HL9 := hI l9
 have HL10 := hI l10
 have CV : Hid (Calls Tryz.prog 126 #[.agg #[.string s.1, .string s.2]] w (RetB w (Sy.symOk s.1 s.2))) := Sy.validSY s.1 s.2 w
 have CZ : Hid (∀ W, Calls Tryz.prog 124 #[.agg #[.int .i64 0, .string ⟨#[]⟩, .string ⟨#[]⟩, .string ⟨#[]⟩, .string ⟨#[]⟩, .string ⟨#[]⟩, .slice none 0 0]] W (RetB W true)) := isZeroT
 have CA : Hid (∀ W, Below w.heap.size w W → Calls Tryz.prog 127 #[.slice A l.length c] W (RetB W (wfTs l))) := fun W hw => areWfT l A c W S (hS.later hw.size) (ha.below hS hw) hn fun x hx W2 b k cs hb hp => ke x hx W2 b k cs (chain2 hw hb (Nat.le_refl _)) hp
 have RES : Hid (wfT (.app s l) = (Sy.symOk s.1 s.2 && (decide (l.length ≤ 8) && wfTs l))) := (show _ = _ by unfold wfT; rfl)
 rw [RES.out]
 clear h hv ha ecs hS hlb RES ke
 generalize Sy.symOk s.1 s.2 = r at *
 generalize wfTs l = q at *
 generalize l.length = n at *
 go_enter Tryz.func95, Tryz.ntmps95
 go_wp2_with fail
 refine CV.out.mono ?_
 rintro e w1 ⟨rfl, hb1⟩
 have k3 := (hb1.cell (p := ⟨b, k + 3, none⟩) HLB.out).trans HL3.out
 have k4 := (hb1.cell (p := ⟨b, k + 4, none⟩) HLB.out).trans HL4.out
 have k5 := (hb1.cell (p := ⟨b, k + 5, none⟩) HLB.out).trans HL5.out
 have k6 := (hb1.cell (p := ⟨b, k + 6, none⟩) HLB.out).trans HL6.out
 have k7 := (hb1.cell (p := ⟨b, k + 7, none⟩) HLB.out).trans HL7.out
 have k8 := (hb1.cell (p := ⟨b, k + 8, none⟩) HLB.out).trans HL8.out
 have k9 := (hb1.cell (p := ⟨b, k + 9, none⟩) HLB.out).trans HL9.out
 have k10 := (hb1.cell (p := ⟨b, k + 10, none⟩) HLB.out).trans HL10.out
 have HB1 := hI hb1
 clear hb1 l0 l1 l2 l3 l4 l5 l6 l7 l8 l9 l10 CV
 cases r with
 | false =>
  go_wp2_with fail
  go_ret
  exact ⟨rfl, HB1.out⟩
 | true =>
  by_cases h8 : n ≤ 8
  · have h8' : (n : Int) ≤ 8 := by omega
    have hr : Hid ((true && (decide (n ≤ 8) && q)) = q) := (show _ = _ by simp [h8])
    go_wp2_with fail
    refine (CZ.out _).mono ?_
    rintro e w2 ⟨rfl, hb2⟩
    have hb := HB1.out.trans (hb2.mono HB1.out.size)
    have k10' := (hb.cell (p := ⟨b, k + 10, none⟩) HLB.out).trans HL10.out
    have HB := hI hb
    clear k3 k4 k5 k6 k7 k8 k9 k10 hb hb2
    go_wp2_with fail
    refine (CA.out _ HB.out).mono ?_
    rintro e w3 ⟨rfl, hb3⟩
    have HB3 := hI (HB.out.trans (hb3.mono HB.out.size))
    clear hb3 k10'
    go_wp2_with fail
    go_ret
    exact ⟨by rw [hr.out]; rfl, HB3.out⟩
  · have h8' : ¬ (n : Int) ≤ 8 := by omega
    have hr : Hid ((true && (decide (n ≤ 8) && q)) = false) := (show _ = _ by simp [h8])
    go_wp2_with fail
    refine (CZ.out _).mono ?_
    rintro e w2 ⟨rfl, hb2⟩
    have hb := HB1.out.trans (hb2.mono HB1.out.size)
    have k10' := (hb.cell (p := ⟨b, k + 10, none⟩) HLB.out).trans HL10.out
    have HB := hI hb
    clear k3 k4 k5 k6 k7 k8 k9 k10 hb hb2
    go_wp2_with fail
    go_ret
    exact ⟨by first | rfl | (rw [hr.out]; rfl), HB.out⟩
theorem isWfT (S : Nat → Prop) : ∀ (t : Tm) (b k : Nat) (cs : List Value) (w : World), In S w → TmP w S t b k cs → t.bd 90 → t.nodes ≤ 3000 → Calls Tryz.prog 95 #[.pointer (some ⟨b, k, none⟩)] w (RetB w (wfT t)) := by
 intro t
 induction t using Tm.ind with
 | hv s => intro b k cs w hS h _ _; exact wfVar s b k cs w S hS h
 | hc o =>
  intro b k cs w hS h hbd hn
  exact wfCon o b k cs w S hS h (by unfold Tm.bd at hbd; exact hbd) (by unfold Tm.nodes at hn; exact hn)
 | ha s l ih =>
  intro b k cs w hS h hbd hn
  have h2 : (Tm.app s l).nodes = 1 + Tm.nodesL l := (by unfold Tm.nodes; rfl)
  have h3 := Tm.nodesL_len l
  unfold Tm.bd at hbd
  exact wfApp s l b k cs w S hS h (by omega) fun x hx W b k cs hb hp => ih x hx b k cs W (hS.later hb.size) hp (Tm.bdL_mem hbd hx) (by have := Tm.nodes_mem hx; omega)
theorem validT (t : Tm) (cs : List Value) (w : World) (S : Nat → Prop) (hS : In S w) (h : TmAt w S t cs) (hn : t.nodes ≤ 3000) (hd : t.dep ≤ 200) (hbd : t.bd 90) :
 Calls Tryz.prog 56 #[vTm cs] w (RetB w (wfT t)) := by
 have h' := h
 obtain ⟨x0, x1, x2, x3, x4, x5, x6, A, c, rfl, _, _⟩ := h'.eleven
 have hA := below_alT w (.cells #[.int .i64 t.kd, .string t.nm.1, .string t.nm.2, x0, x1, x2, x3, x4, x5, x6, .slice A t.args.length c] 35)
 have B1 : TB (w.alloc (.cells #[.int .i64 t.kd, .string t.nm.1, .string t.nm.2, x0, x1, x2, x3, x4, x5, x6, .slice A t.args.length c] 35)) w.heap.size [.int .i64 t.kd, .string t.nm.1, .string t.nm.2, x0, x1, x2, x3, x4, x5, x6, .slice A t.args.length c] := TB.new w [.int .i64 t.kd, .string t.nm.1, .string t.nm.2, x0, x1, x2, x3, x4, x5, x6, .slice A t.args.length c]
 have HIn := hI (hS.later hA.size)
 have HT := hI (h.below hS hA)
 have O1 : One11 [.int .i64 t.kd, .string t.nm.1, .string t.nm.2, x0, x1, x2, x3, x4, x5, x6, .slice A t.args.length c] := h.o11
 have CN : Hid (Calls Tryz.prog 57 #[vTm [.int .i64 t.kd, .string t.nm.1, .string t.nm.2, x0, x1, x2, x3, x4, x5, x6, .slice A t.args.length c]] (w.alloc (.cells #[.int .i64 t.kd, .string t.nm.1, .string t.nm.2, x0, x1, x2, x3, x4, x5, x6, .slice A t.args.length c] 35)) (RetI (w.alloc (.cells #[.int .i64 t.kd, .string t.nm.1, .string t.nm.2, x0, x1, x2, x3, x4, x5, x6, .slice A t.args.length c] 35)) t.nodes)) := nodesT t _ _ S HIn.out HT.out hn
 have CD : Hid (∀ W, Below (w.alloc (.cells #[.int .i64 t.kd, .string t.nm.1, .string t.nm.2, x0, x1, x2, x3, x4, x5, x6, .slice A t.args.length c] 35)).heap.size (w.alloc (.cells #[.int .i64 t.kd, .string t.nm.1, .string t.nm.2, x0, x1, x2, x3, x4, x5, x6, .slice A t.args.length c] 35)) W → Calls Tryz.prog 94 #[vTm [.int .i64 t.kd, .string t.nm.1, .string t.nm.2, x0, x1, x2, x3, x4, x5, x6, .slice A t.args.length c]] W (RetI W t.dep)) := fun W hw => depthTop t _ W S (HIn.out.later hw.size) (HT.out.below HIn.out hw) hn hd
 have CW : Hid (∀ W, Below (w.alloc (.cells #[.int .i64 t.kd, .string t.nm.1, .string t.nm.2, x0, x1, x2, x3, x4, x5, x6, .slice A t.args.length c] 35)).heap.size (w.alloc (.cells #[.int .i64 t.kd, .string t.nm.1, .string t.nm.2, x0, x1, x2, x3, x4, x5, x6, .slice A t.args.length c] 35)) W → Calls Tryz.prog 95 #[.pointer (some ⟨w.heap.size, 0, none⟩)] W (RetB W (wfT t))) := fun W hw => by
  have hP := ((B1.keep hw).p ((HT.out.below HIn.out hw).more fun b hb => Nat.lt_of_lt_of_le (HIn.out b hb) hw.size) (show Has W w.heap.size from Nat.lt_of_lt_of_le B1.lt hw.size))
  exact isWfT (Has W) t _ _ _ W (In.has W) hP hbd hn
 have hn' : (t.nodes : Int) ≤ 3000 := by omega
 have hd' : (t.dep : Int) ≤ 200 := by omega
 have HB1 := hI B1
 have HA := hI hA
 clear h h' hS hA B1 hbd hn hd HIn HT
 generalize wfT t = q at *
 generalize (t.nodes : Int) = n at *
 generalize (t.dep : Int) = d at *
 unfold vTm at CN CD ⊢
 go_enter Tryz.func56, Tryz.ntmps56
 go_wp2_with fail
 generalize (w.alloc (.cells #[.int .i64 t.kd, .string t.nm.1, .string t.nm.2, x0, x1, x2, x3, x4, x5, x6, .slice A t.args.length c] 35)) = W at *
 go_wp2_with ((with_reducible refine loadTb (cs := [.int .i64 t.kd, .string t.nm.1, .string t.nm.2, x0, x1, x2, x3, x4, x5, x6, .slice A t.args.length c]) (.tmp 1) ?_ ?_ ?_ HB1.out ?_ ?_); rfl; rfl; rfl; rfl)
 try unfold vTm
 refine CN.out.mono ?_
 rintro e w1 ⟨rfl, hb1⟩
 have HB2 := hI (HB1.out.keep hb1)
 have HX1 := hI hb1
 clear hb1 CN
 go_wp2_with ((with_reducible refine loadTg (cs := [.int .i64 t.kd, .string t.nm.1, .string t.nm.2, x0, x1, x2, x3, x4, x5, x6, .slice A t.args.length c]) (.tmp 1) ?_ ?_ ?_ HB2.out ?_ ?_); rfl; rfl; rfl; rfl)
 try unfold vTm
 refine (CD.out _ HX1.out).mono ?_
 rintro e w2 ⟨rfl, hb2⟩
 have HX2 := hI (HX1.out.trans (hb2.mono HX1.out.size))
 clear hb2 CD
 go_wp2_with fail
 refine (CW.out _ HX2.out).mono ?_
 rintro e w3 ⟨rfl, hb3⟩
 have HX3 := hI (HX2.out.trans (hb3.mono HX2.out.size))
 have HB3 := hI (HA.out.trans (HX3.out.mono HA.out.size))
 clear hb3 CW
 go_wp2_with fail
 go_ret
 exact ⟨rfl, HB3.out⟩
end Go.Proofs.YtinjhnnpbejccaaGreatDoor
