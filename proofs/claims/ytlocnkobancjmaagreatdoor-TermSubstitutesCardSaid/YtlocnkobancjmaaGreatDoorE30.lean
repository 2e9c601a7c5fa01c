/- The walk of TermSubstitutes. -/
import Derived.Test.YtlocnkobancjmaaGreatDoorE19
import Derived.Test.YtlocnkobancjmaaGreatDoorE29
namespace Go.Proofs.YtlocnkobancjmaaGreatDoor
open Go Go.RowKit
set_option linter.unusedVariables false
set_option maxHeartbeats 32000000
set_option maxRecDepth 100000
def QS (r : Rw) (l : List Rw) (u : Tm) : Prop := ∃ t s, mtP PE r t ∧ s.length = l.length ∧ asP PE l s ∧ u = subT s t
theorem QS.det {r : Rw} {l : List Rw} {u u' : Tm} : QS r l u → QS r l u' → u = u'
 | ⟨t, s, h1, h2, h3, h4⟩, ⟨t', s', h1', h2', h3', h4'⟩ => by
  rw [h4, h4', mtP_det PE.det r t t' h1 h1', asP_det PE.det l s s' (h2.trans h2'.symm) h3 h3']
theorem QS.nodes {r : Rw} {l : List Rw} {u : Tm} (hl : ∀ i (hi : i < l.length), (l[i].cnt : Int) ≤ 10) (hr : r.cnt ≤ 25) : QS r l u → u.nodes ≤ 3000
 | ⟨t, s, h1, h2, h3, h4⟩ => by
  have ha := asP_all (N := 10) l s hl h3
  have h := subT_nodes (s := s) (N := 40) (by decide) (fun p hp => (ha p hp).1) r t h1
  have h' : 40 * r.cnt ≤ 40 * 25 := Nat.mul_le_mul_left _ hr
  rw [h4]; omega
def LAsP (w0 : World) (P : List (Nm × Tm) → Prop) : Lv := fun v _ _ w => w0.heap.size ≤ w.heap.size ∧ ∃ s va, v = va ∧ AsV w (Upto w0 w NoB) s va ∧ P s
theorem mLAsP (w0 : World) (P : List (Nm × Tm) → Prop) : Mon (LAsP w0 P) := fun _ _ _ _ _ ⟨h0, s, va, h, k, hp⟩ _ hb => ⟨Nat.le_trans h0 hb.size, s, va, h, k.keep (fun b hb' => upto_more hb.size b hb') (fun b hb' => hb.block b (upto_lt (NoB.in _) h0 b hb')), hp⟩
theorem termSubstitutesW (r : Rw) (q0 q1 q2 q3 : Value) (l : List Rw) (A : Option Addr) (c : Nat) (w : World) (hr : RawAt w (Has w) r [q0, q1, q2, q3]) (hlc : l.length ≤ c) (hcm : c ≤ maxLen) (hA : 0 < l.length → ∃ b o, A = some ⟨b, o, none⟩ ∧ Has w b ∧ RawsAt w (Has w) b o l) (ht : Tab w) :
 Calls Tryz.prog 6 #[.agg #[q0, q1, q2, q3], .slice A l.length c] w (RetB w true) := by
 have RR := hI hr
 have HTB := hI ht
 have HA0 := hI hA
 have CF : Hid (∀ X, Below w.heap.size w X → Calls Tryz.prog 19 #[.agg #[q0, q1, q2, q3], .int .i64 25] X (fun e w' => e = .returned (.bool (few r 25)) ∧ Below X.heap.size X w')) := fun X h => fewO r [q0, q1, q2, q3] 25 X (Has w) (In.has w |>.later h.size) (RR.out.below (In.has w) h) (by decide) (by decide)
 have CA : Hid (∀ X, Below w.heap.size w X → Calls Tryz.prog 18 #[.slice A l.length c, .int .i64 10] X (fun e w' => ∃ t, e = .returned (.bool t) ∧ Below X.heap.size X w' ∧ (t = true → l.length ≤ 8 ∧ ∀ i (hi : i < l.length), few l[i] 10 = true))) := fun X h => fewAllO l A c 10 X (Has w) (In.has w |>.later h.size) hlc hcm (by decide) (by decide) (fun h0 => by
  obtain ⟨b, o, e, hb, hrs⟩ := HA0.out h0
  exact ⟨b, o, e, hb, RawsAt.keep (fun q hq => h.cell (In.has w q.block hq)) b o hb l hrs⟩)
 have KM : Hid (few r 25 = true → r.cnt ≤ 25 ∧ ∀ X, Below w.heap.size w X → Calls Tryz.prog 20 #[.agg #[q0, q1, q2, q3]] X (RetTP X (mtP PE r))) := fun hf => by
  obtain ⟨hok, hcn⟩ := few_ok hf
  exact ⟨by omega, fun X h => madeT PE oMkE r [q0, q1, q2, q3] X (Has w) (In.has w |>.later h.size) (RR.out.below (In.has w) h) hok (HTB.out.below h)⟩
 have KA : Hid (l.length ≤ 8 → (∀ i (hi : i < l.length), few l[i] 10 = true) → (∀ i (hi : i < l.length), (l[i].cnt : Int) ≤ 10) ∧ ∀ X, Below w.heap.size w X → Calls Tryz.prog 39 #[.slice A l.length c] X (RetAP X (fun s => s.length = l.length ∧ asP PE l s))) := fun h8 hf => ⟨fun i hi => (few_ok (hf i hi)).2, fun X h =>
  assignsT PE oMkE l A c X (Has w) (In.has w |>.later h.size) h8 hlc (HTB.out.below h) (fun h0 => by
   obtain ⟨b, o, e, hb, hrs⟩ := HA0.out h0
   exact ⟨b, o, e, hb, RawsAt.keep (fun q hq => h.cell (In.has w q.block hq)) b o hb l hrs⟩) (fun r' hr' => by
   obtain ⟨i, hi, rfl⟩ := List.getElem_of_mem hr'
   exact (few_ok (hf i hi)).1)⟩
 generalize few r 25 = ff at CF KM
 have hA2 : Below w.heap.size w (w.alloc (.cells #[q0, q1, q2, q3] 40)) := below_alT w _
 have BR : Hid ((w.alloc (.cells #[q0, q1, q2, q3] 40)).heap[w.heap.size]? = some (.cells #[q0, q1, q2, q3] 40 (0, 0))) := heap_alloc_new w _
 have HB := hI hA2
 clear hr ht hA hlc hcm hA2 HA0 RR HTB
 go_enter Tryz.func6, Tryz.ntmps6
 go_upto_region 1 with fail
 generalize (w.alloc (.cells #[q0, q1, q2, q3] 40)) = W at *
 go_wp2_with fail
 with_reducible refine (first8 W).mono ?_
 rintro e w1 ⟨rfl, hb⟩
 replace BR := hI ((hb.block _ (lt_row BR.out)).trans BR.out)
 replace HB := hI (chain2 HB.out hb (Nat.le_refl _))
 clear hb
 have c0 : w1.cell? ⟨w.heap.size, 0, none⟩ = some q0 := by rw [cell_of_row _ _ _ _ _ _ BR.out]; rfl
 have c1 : w1.cell? ⟨w.heap.size, 1, none⟩ = some q1 := by rw [cell_of_row _ _ _ _ _ _ BR.out]; rfl
 have c2 : w1.cell? ⟨w.heap.size, 2, none⟩ = some q2 := by rw [cell_of_row _ _ _ _ _ _ BR.out]; rfl
 have c3 : w1.cell? ⟨w.heap.size, 3, none⟩ = some q3 := by rw [cell_of_row _ _ _ _ _ _ BR.out]; rfl
 go_wp2_with fail
 with_reducible refine (CF.out _ HB.out).mono ?_
 rintro e w2 ⟨rfl, hb⟩
 replace BR := hI ((hb.block _ (lt_row BR.out)).trans BR.out)
 replace HB := hI (chain2 HB.out hb (Nat.le_refl _))
 clear hb CF c0 c1 c2 c3
 cases ff with
 | false =>
  go_wp2
  go_ret
  exact ⟨rfl, HB.out⟩
 | true =>
  go_wp2_with fail
  with_reducible refine (CA.out _ HB.out).mono ?_
  rintro e w5 ⟨ta, rfl, hb, hfa⟩
  replace BR := hI ((hb.block _ (lt_row BR.out)).trans BR.out)
  replace HB := hI (chain2 HB.out hb (Nat.le_refl _))
  clear hb CA
  cases ta with
  | false =>
   go_wp2
   go_ret
   exact ⟨rfl, HB.out⟩
  | true =>
   obtain ⟨h8, haf⟩ := hfa (by simp)
   obtain ⟨hcn, hKM⟩ := KM.out (by simp)
   obtain ⟨hlc, hKA⟩ := KA.out h8 haf
   replace KM := hI hKM
   replace KA := hI hKA
   have HTN : Hid (∀ t, mtP PE r t → t.nodes ≤ 3000) := fun t h => by
    have := mtP_nodes r t h
    omega
   have HQN : Hid (∀ u, QS r l u → u.nodes ≤ 3000) := fun u h => h.nodes hlc hcn
   have HL8 : Hid (l.length ≤ 100000) := (show _ ≤ _ by omega)
   clear hfa haf hcn hlc hKM hKA h8
   obtain ⟨g0, hg0⟩ : ∃ g0, w.heap.size = g0 := ⟨_, rfl⟩
   rw [hg0] at BR
   have HB' := HB.out
   rw [hg0]
   clear hg0 HB'
   go_wp2_with fail
   refine wp_region_grow (l := _) 11 (by kernel_rfl) (by kernel_rfl) (fun i => [15, 16, 17, 18, 19, 20, 21, 22, 23, 24, 25].getD i 0) (LR [LV (.agg #[q0, q1, q2, q3]), LTP w5 (mtP PE r), LV (.slice A l.length c), LAsP w5 (fun s => s.length = l.length ∧ asP PE l s), LTP w5 (QS r l), LV (.agg #[q0, q1, q2, q3]), LTP w5 (mtP PE r), LV (.slice A l.length c), LAsP w5 (fun s => s.length = l.length ∧ asP PE l s), LTP w5 (QS r l), LV (.bool true)]) (LR_mono ⟨mLV _, mLTP _ _, mLV _, mLAsP _ _, mLTP _ _, mLV _, mLTP _ _, mLV _, mLAsP _ _, mLTP _ _, mLV _, trivial⟩) (by
    intro i j hi hj h
    exact inj_getD [15, 16, 17, 18, 19, 20, 21, 22, 23, 24, 25] (by decide) i j hi hj h) (by
    intro i hi
    exact lt_getD 26 [15, 16, 17, 18, 19, 20, 21, 22, 23, 24, 25] (by decide) i hi) ?step ?done
   case step =>
    intro ii hii a w9 v lo hi' hoth hb hw
    have sl1 : a.tmps[1]? = some (.slice A l.length c) := (hoth 1 (fun j hj => ne_getD 1 _ (by decide) j hj)).trans rfl
    have sl2 : a.tmps[2]? = some (.pointer (some ⟨g0, 0, none⟩)) := (hoth 2 (fun j hj => ne_getD 2 _ (by decide) j hj)).trans rfl
    match ii, hii with
    | 0, _ =>
     have HRW := (hb.block _ (lt_row BR.out)).trans BR.out
     have ck0 : w9.cell? ⟨g0, 0, none⟩ = some q0 := by rw [cell_of_row _ _ _ _ _ _ HRW]; rfl
     have ck1 : w9.cell? ⟨g0, 1, none⟩ = some q1 := by rw [cell_of_row _ _ _ _ _ _ HRW]; rfl
     have ck2 : w9.cell? ⟨g0, 2, none⟩ = some q2 := by rw [cell_of_row _ _ _ _ _ _ HRW]; rfl
     have ck3 : w9.cell? ⟨g0, 3, none⟩ = some q3 := by rw [cell_of_row _ _ _ _ _ _ HRW]; rfl
     refine wpOp_step rfl fun K' hK' => ?_
     rw [if_pos (wanted_plain rfl)]
     unfold Oper.wp
     simp only [execOp]
     go_simp
     exact hK' _ _ ⟨_, rfl, Below.refl _ _, rfl⟩
    | 1, _ =>
     obtain ⟨s0, r0, _⟩ := hw 0 (by omega) (by kernel_rfl)
     have e0 : v 0 = .agg #[q0, q1, q2, q3] := r0
     rw [e0] at s0
     replace s0 : a.tmps[15]? = some (.agg #[q0, q1, q2, q3]) := s0
     refine gw_t rfl (wanted_plain rfl) 20 15 _ _ rfl (fun v w => by go_simp) s0 ?_
     with_reducible refine (KM.out w9 (chain2 HB.out hb (Nat.le_refl _))).mono ?_
     rintro e w3 ⟨t3, ⟨cs3, rfl, h3, hb3⟩, hm3⟩
     exact ⟨_, rfl, _, rfl, hb3, Nat.le_trans hb.size hb3.size, t3, cs3, rfl, h3.more (fun b hb0 => by rcases hb0 with h | h; exact h.elim; exact .inr ⟨Nat.le_trans hb.size h.1, h.2⟩), hm3⟩
    | 2, _ =>
     exact gw_move rfl (wanted_plain rfl) 1 _ rfl sl1 ⟨_, rfl, Below.refl _ _, rfl⟩
    | 3, _ =>
     obtain ⟨s0, r0, _⟩ := hw 2 (by omega) (by kernel_rfl)
     have e0 : v 2 = .slice A l.length c := r0
     rw [e0] at s0
     replace s0 : a.tmps[17]? = some (.slice A l.length c) := s0
     refine gw_t rfl (wanted_plain rfl) 39 17 _ _ rfl (fun v w => by go_simp) s0 ?_
     with_reducible refine (KA.out w9 (chain2 HB.out hb (Nat.le_refl _))).mono ?_
     rintro e w3 ⟨s3, v3, rfl, h3, hb3, hm3⟩
     exact ⟨_, rfl, _, rfl, hb3, Nat.le_trans hb.size hb3.size, s3, v3, rfl, h3.more (fun b hb0 => by rcases hb0 with h | h; exact h.elim; exact .inr ⟨Nat.le_trans hb.size h.1, h.2⟩), hm3⟩
    | 4, _ =>
     obtain ⟨s0, r0, b0⟩ := hw 1 (by omega) (by kernel_rfl)
     obtain ⟨hz0, t0, cs0, e0, ht0, hp0⟩ := r0
     rw [e0] at s0
     obtain ⟨s1, r1, b1⟩ := hw 3 (by omega) (by kernel_rfl)
     obtain ⟨hz1, sg1, va1, e1, ha1, hp1⟩ := r1
     rw [e1] at s1
     have HN : t0.nodes ≤ 3000 := HTN.out t0 hp0
     have HL : sg1.length ≤ 100000 := by rw [hp1.1]; exact HL8.out
     have CC := substituteP sg1 va1 t0 cs0 w9 (Upto w5 w9 NoB) ((NoB.in w5).upto hb.size) ht0 ha1 HN HL
     refine gw_tt rfl (wanted_plain rfl) 38 16 18 _ _ _ rfl (fun v u w => by go_simp) s0 s1 ?_
     with_reducible refine (CC).mono ?_
     rintro e w3 ⟨cs3, rfl, h3, hb3⟩
     exact ⟨_, rfl, _, rfl, hb3, Nat.le_trans hb.size hb3.size, _, cs3, rfl, h3.more (fun b hb0 => upto_two hb.size hb3.size b hb0), t0, sg1, hp0, hp1.1, hp1.2, rfl⟩
    | 5, _ =>
     have HRW := (hb.block _ (lt_row BR.out)).trans BR.out
     have ck0 : w9.cell? ⟨g0, 0, none⟩ = some q0 := by rw [cell_of_row _ _ _ _ _ _ HRW]; rfl
     have ck1 : w9.cell? ⟨g0, 1, none⟩ = some q1 := by rw [cell_of_row _ _ _ _ _ _ HRW]; rfl
     have ck2 : w9.cell? ⟨g0, 2, none⟩ = some q2 := by rw [cell_of_row _ _ _ _ _ _ HRW]; rfl
     have ck3 : w9.cell? ⟨g0, 3, none⟩ = some q3 := by rw [cell_of_row _ _ _ _ _ _ HRW]; rfl
     refine wpOp_step rfl fun K' hK' => ?_
     rw [if_pos (wanted_plain rfl)]
     unfold Oper.wp
     simp only [execOp]
     go_simp
     exact hK' _ _ ⟨_, rfl, Below.refl _ _, rfl⟩
    | 6, _ =>
     obtain ⟨s0, r0, _⟩ := hw 5 (by omega) (by kernel_rfl)
     have e0 : v 5 = .agg #[q0, q1, q2, q3] := r0
     rw [e0] at s0
     replace s0 : a.tmps[20]? = some (.agg #[q0, q1, q2, q3]) := s0
     refine gw_t rfl (wanted_plain rfl) 20 20 _ _ rfl (fun v w => by go_simp) s0 ?_
     with_reducible refine (KM.out w9 (chain2 HB.out hb (Nat.le_refl _))).mono ?_
     rintro e w3 ⟨t3, ⟨cs3, rfl, h3, hb3⟩, hm3⟩
     exact ⟨_, rfl, _, rfl, hb3, Nat.le_trans hb.size hb3.size, t3, cs3, rfl, h3.more (fun b hb0 => by rcases hb0 with h | h; exact h.elim; exact .inr ⟨Nat.le_trans hb.size h.1, h.2⟩), hm3⟩
    | 7, _ =>
     exact gw_move rfl (wanted_plain rfl) 1 _ rfl sl1 ⟨_, rfl, Below.refl _ _, rfl⟩
    | 8, _ =>
     obtain ⟨s0, r0, _⟩ := hw 7 (by omega) (by kernel_rfl)
     have e0 : v 7 = .slice A l.length c := r0
     rw [e0] at s0
     replace s0 : a.tmps[22]? = some (.slice A l.length c) := s0
     refine gw_t rfl (wanted_plain rfl) 39 22 _ _ rfl (fun v w => by go_simp) s0 ?_
     with_reducible refine (KA.out w9 (chain2 HB.out hb (Nat.le_refl _))).mono ?_
     rintro e w3 ⟨s3, v3, rfl, h3, hb3, hm3⟩
     exact ⟨_, rfl, _, rfl, hb3, Nat.le_trans hb.size hb3.size, s3, v3, rfl, h3.more (fun b hb0 => by rcases hb0 with h | h; exact h.elim; exact .inr ⟨Nat.le_trans hb.size h.1, h.2⟩), hm3⟩
    | 9, _ =>
     obtain ⟨s0, r0, b0⟩ := hw 6 (by omega) (by kernel_rfl)
     obtain ⟨hz0, t0, cs0, e0, ht0, hp0⟩ := r0
     rw [e0] at s0
     obtain ⟨s1, r1, b1⟩ := hw 8 (by omega) (by kernel_rfl)
     obtain ⟨hz1, sg1, va1, e1, ha1, hp1⟩ := r1
     rw [e1] at s1
     have HN : t0.nodes ≤ 3000 := HTN.out t0 hp0
     have HL : sg1.length ≤ 100000 := by rw [hp1.1]; exact HL8.out
     have CC := substituteR sg1 va1 (Upto w5 w9 NoB) HL t0 w9 cs0 ((NoB.in w5).upto hb.size) ha1 HN ht0
     refine gw_tt rfl (wanted_plain rfl) 40 21 23 _ _ _ rfl (fun v u w => by go_simp) s0 s1 ?_
     with_reducible refine (CC).mono ?_
     rintro e w3 ⟨cs3, rfl, h3, hb3⟩
     exact ⟨_, rfl, _, rfl, hb3, Nat.le_trans hb.size hb3.size, _, cs3, rfl, h3.more (fun b hb0 => upto_two hb.size hb3.size b hb0), t0, sg1, hp0, hp1.1, hp1.2, rfl⟩
    | 10, _ =>
     obtain ⟨s0, r0, b0⟩ := hw 4 (by omega) (by kernel_rfl)
     obtain ⟨hz0, t0, cs0, e0, ht0, hp0⟩ := r0
     rw [e0] at s0
     obtain ⟨s1, r1, b1⟩ := hw 9 (by omega) (by kernel_rfl)
     obtain ⟨hz1, t1, cs1, e1, ht1, hp1⟩ := r1
     rw [e1] at s1
     have e01 : t1 = t0 := QS.det hp1 hp0
     subst e01
     have CC := equalR (Upto w5 w9 NoB) t1 t1 w9 cs0 cs1 ((NoB.in w5).upto hb.size) (HQN.out t1 hp1) ht0 ht1
     rw [eqT_refl] at CC
     refine gw_tt rfl (wanted_plain rfl) 22 19 24 _ _ _ rfl (fun v u w => by go_simp) s0 s1 ?_
     with_reducible refine (CC).mono ?_
     rintro e w3 ⟨rfl, hb3⟩
     exact ⟨_, rfl, _, rfl, hb3, rfl⟩
   case done =>
    intro a w9 v lo hi' hdef hsz hoth hb hj hap
    obtain ⟨_, hv10, _, _⟩ := hj 10 (by omega)
    have ha := eq_puts hdef hsz hoth (fun i hi => (hj i hi).1)
    subst ha
    clear hj hoth hdef hsz hap
    change v 10 = _ at hv10
    simp only [puts, List.getD_cons_zero, List.getD_cons_succ, hv10]
    generalize v 0 = v0
    generalize v 1 = v1
    generalize v 2 = v2
    generalize v 3 = v3
    generalize v 4 = v4
    generalize v 5 = v5
    generalize v 6 = v6
    generalize v 7 = v7
    generalize v 8 = v8
    generalize v 9 = v9
    clear hv10
    simp only [Act.put, List.setIfInBounds_toArray, List.set_cons_zero, List.set_cons_succ]
    show wpList _ _ _ [_] _ _
    have HBZ := hI (chain2 HB.out hb (Nat.le_refl _))
    go_wp2
    go_ret
    exact ⟨rfl, HBZ.out⟩
theorem termSubstitutes_walk (r : Rw) (r0 r1 r2 r3 : Value) (l : List Rw) (A : Option Addr) (c : Nat) (w : World) (hr : RawAt w (Has w) r [r0, r1, r2, r3]) (hlc : l.length ≤ c) (hcm : c ≤ maxLen) (hA : 0 < l.length → ∃ b o, A = some ⟨b, o, none⟩ ∧ Has w b ∧ RawsAt w (Has w) b o l) (ht : Tab w) :
 Calls Tryz.prog 6 #[.agg #[r0, r1, r2, r3], .slice A l.length c] w (RetB w true) :=
 termSubstitutesW r r0 r1 r2 r3 l A c w hr hlc hcm hA ht
end Go.Proofs.YtlocnkobancjmaaGreatDoor
