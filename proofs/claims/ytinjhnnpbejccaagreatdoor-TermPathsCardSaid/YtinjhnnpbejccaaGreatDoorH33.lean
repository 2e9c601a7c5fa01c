/- The walk of TermPaths. -/
import Derived.Test.YtinjhnnpbejccaaGreatDoorH19
import Derived.Test.YtinjhnnpbejccaaGreatDoorH31
import Derived.Test.YtinjhnnpbejccaaGreatDoorH32
namespace Go.Proofs.YtinjhnnpbejccaaGreatDoor
open Go Go.RowKit
set_option linter.unusedVariables false
set_option maxHeartbeats 32000000
set_option maxRecDepth 100000
theorem IntV.isV {w : World} {l : List Int} {v : Value} (h : IntV w l v) : IsV w (Has w) l v := by
 obtain ⟨A, c, h1, h2, _, h3, _⟩ := h
 refine ⟨A, c, h1, h2, fun hl => ?_⟩
 obtain ⟨b, o, e, hb, hr⟩ := h3 hl
 exact ⟨b, o, e, hb, hr⟩
theorem TmAt.has {w w' : World} {t : Tm} {cs : List Value} (h : TmAt w (Has w) t cs) (hb : Below w.heap.size w w') : TmAt w' (Has w') t cs := (h.below (In.has w) hb).more (fun b h => Nat.lt_of_lt_of_le h hb.size)
theorem termPathsW (ra rb : Rw) (qa0 qb0 qa1 qb1 qa2 qb2 qa3 qb3 : Value) (pl : List Int) (pv : Value) (w : World) (hra : RawAt w (Has w) ra [qa0, qa1, qa2, qa3]) (hrb : RawAt w (Has w) rb [qb0, qb1, qb2, qb3]) (hpv : IntV w pl pv) (ht : Tab w) :
 Calls Tryz.prog 8 #[.agg #[qa0, qa1, qa2, qa3], .agg #[qb0, qb1, qb2, qb3], pv] w (RetB w true) := by
 have HRA := hI hra
 have HRB := hI hrb
 have HTAB := hI ht
 have FA : Hid (∀ X, Below w.heap.size w X → Calls Tryz.prog 14 #[.agg #[qa0, qa1, qa2, qa3], .int .i64 30] X (fun e w' => e = .returned (.bool (few ra 30)) ∧ Below X.heap.size X w')) := fun X h => fewO ra [qa0, qa1, qa2, qa3] 30 X (Has w) (In.has w |>.later h.size) (HRA.out.below (In.has w) h) (by decide) (by decide)
 have KA : Hid (few ra 30 = true → ra.cnt ≤ 30 ∧ ∀ X, Below w.heap.size w X → Calls Tryz.prog 15 #[.agg #[qa0, qa1, qa2, qa3]] X (RetTP X (mtP (fun _ _ => True) ra))) := fun hf => by
  obtain ⟨hok, hcn⟩ := few_ok hf
  exact ⟨by omega, fun X h => madeT (fun _ _ => True) oMkT ra [qa0, qa1, qa2, qa3] X (Has w) (In.has w |>.later h.size) (HRA.out.below (In.has w) h) hok (HTAB.out.below h)⟩
 have FB : Hid (∀ X, Below w.heap.size w X → Calls Tryz.prog 14 #[.agg #[qb0, qb1, qb2, qb3], .int .i64 10] X (fun e w' => e = .returned (.bool (few rb 10)) ∧ Below X.heap.size X w')) := fun X h => fewO rb [qb0, qb1, qb2, qb3] 10 X (Has w) (In.has w |>.later h.size) (HRB.out.below (In.has w) h) (by decide) (by decide)
 have KB : Hid (few rb 10 = true → rb.cnt ≤ 10 ∧ ∀ X, Below w.heap.size w X → Calls Tryz.prog 15 #[.agg #[qb0, qb1, qb2, qb3]] X (RetTP X (mtP (fun _ _ => True) rb))) := fun hf => by
  obtain ⟨hok, hcn⟩ := few_ok hf
  exact ⟨by omega, fun X h => madeT (fun _ _ => True) oMkT rb [qb0, qb1, qb2, qb3] X (Has w) (In.has w |>.later h.size) (HRB.out.below (In.has w) h) hok (HTAB.out.below h)⟩
 generalize few ra 30 = fa at FA KA
 generalize few rb 10 = fb at FB KB
 have hiv := hpv.isV
 obtain ⟨AP, cP, rfl, hlP, hmP, _, hbP⟩ := hpv
 have HBP := hI hbP
 obtain ⟨LP, hLP⟩ : ∃ L, pl.length = L := ⟨_, rfl⟩
 rw [hLP] at hlP hiv ⊢
 have HLP := hI hLP
 have HPV := hI hiv
 have hA2 : Below w.heap.size w ((w.alloc (.cells #[qa0, qa1, qa2, qa3] 26)).alloc (.cells #[qb0, qb1, qb2, qb3] 26)) := Below.alloc (Below.alloc (Below.refl _ _) (Nat.le_refl _) _) (by simp) _
 have BA : Hid (((w.alloc (.cells #[qa0, qa1, qa2, qa3] 26)).alloc (.cells #[qb0, qb1, qb2, qb3] 26)).heap[w.heap.size]? = some (.cells #[qa0, qa1, qa2, qa3] 26 (0, 0))) := (Below.heap_alloc _ _ _ (by simp)).trans (heap_alloc_new w _)
 have BB : Hid (((w.alloc (.cells #[qa0, qa1, qa2, qa3] 26)).alloc (.cells #[qb0, qb1, qb2, qb3] 26)).heap[w.heap.size + 1]? = some (.cells #[qb0, qb1, qb2, qb3] 26 (0, 0))) := heap_new_at (by simp)
 have HB := hI hA2
 clear hra hrb ht hA2 HRA HRB HTAB hbP hLP hiv
 go_enter Tryz.func8, Tryz.ntmps8
 go_upto_region 1 with fail
 generalize ((w.alloc (.cells #[qa0, qa1, qa2, qa3] 26)).alloc (.cells #[qb0, qb1, qb2, qb3] 26)) = W at *
 generalize w.heap.size + 1 = j4 at BB ⊢
 obtain ⟨j3, hj3⟩ : ∃ g, w.heap.size = g := ⟨_, rfl⟩
 rw [hj3] at BA ⊢
 clear hj3
 go_wp2_with fail
 with_reducible refine (first8 W).mono ?_
 rintro e w1 ⟨rfl, hb⟩
 replace BA := hI ((hb.block _ (lt_row BA.out)).trans BA.out)
 replace BB := hI ((hb.block _ (lt_row BB.out)).trans BB.out)
 replace HB := hI (chain2 HB.out hb (Nat.le_refl _))
 clear hb
 have dqa0 : w1.cell? ⟨j3, 0, none⟩ = some qa0 := by rw [cell_of_row _ _ _ _ _ _ BA.out]; rfl
 have dqa1 : w1.cell? ⟨j3, 1, none⟩ = some qa1 := by rw [cell_of_row _ _ _ _ _ _ BA.out]; rfl
 have dqa2 : w1.cell? ⟨j3, 2, none⟩ = some qa2 := by rw [cell_of_row _ _ _ _ _ _ BA.out]; rfl
 have dqa3 : w1.cell? ⟨j3, 3, none⟩ = some qa3 := by rw [cell_of_row _ _ _ _ _ _ BA.out]; rfl
 go_wp2_with fail
 with_reducible refine (FA.out _ HB.out).mono ?_
 rintro e w2 ⟨rfl, hb⟩
 replace BA := hI ((hb.block _ (lt_row BA.out)).trans BA.out)
 replace BB := hI ((hb.block _ (lt_row BB.out)).trans BB.out)
 replace HB := hI (chain2 HB.out hb (Nat.le_refl _))
 clear hb
 clear FA dqa0 dqa1 dqa2 dqa3
 cases fa with
 | false =>
  go_wp2
  go_ret
  exact ⟨rfl, HB.out⟩
 | true =>
  have dqb0 : w2.cell? ⟨j4, 0, none⟩ = some qb0 := by rw [cell_of_row _ _ _ _ _ _ BB.out]; rfl
  have dqb1 : w2.cell? ⟨j4, 1, none⟩ = some qb1 := by rw [cell_of_row _ _ _ _ _ _ BB.out]; rfl
  have dqb2 : w2.cell? ⟨j4, 2, none⟩ = some qb2 := by rw [cell_of_row _ _ _ _ _ _ BB.out]; rfl
  have dqb3 : w2.cell? ⟨j4, 3, none⟩ = some qb3 := by rw [cell_of_row _ _ _ _ _ _ BB.out]; rfl
  go_wp2_with fail
  with_reducible refine (FB.out _ HB.out).mono ?_
  rintro e w5 ⟨rfl, hb⟩
  replace BA := hI ((hb.block _ (lt_row BA.out)).trans BA.out)
  replace BB := hI ((hb.block _ (lt_row BB.out)).trans BB.out)
  replace HB := hI (chain2 HB.out hb (Nat.le_refl _))
  clear hb
  clear FB dqb0 dqb1 dqb2 dqb3
  cases fb with
  | false =>
   go_wp2
   go_ret
   exact ⟨rfl, HB.out⟩
  | true =>
   by_cases hgt : (6 : Int) < (LP : Int)
   · go_wp2
     go_ret
     exact ⟨rfl, HB.out⟩
   · have hle6 : LP ≤ 6 := by omega
     obtain ⟨hca, hKA⟩ := KA.out (by simp)
     obtain ⟨hcb, hKB⟩ := KB.out (by simp)
     replace KA := hI hKA
     replace KB := hI hKB
     have HCA := hI hca
     have HCB := hI hcb
     clear hKA hKB hca hcb
     go_wp2_with fail
     refine wp_region_growMT (l := _) 6 1 (by kernel_rfl) (by kernel_rfl) (fun i => [40, 41, 42, 43, 7, 8].getD i 0) (LR [LV (.agg #[qa0, qa1, qa2, qa3]), LTP w5 (mtP (fun _ _ => True) ra), LV (.agg #[qb0, qb1, qb2, qb3]), LTP w5 (mtP (fun _ _ => True) rb), LTx, LTx]) (LR_mono ⟨mLV _, mLTP _ _, mLV _, mLTP _ _, mLTx, mLTx, trivial⟩) (by
      intro i j hi hj h
      exact inj_getD [40, 41, 42, 43, 7, 8] (by decide) i j hi hj h) (by
      intro i hi
      exact lt_getD 149 [40, 41, 42, 43, 7, 8] (by decide) i hi) [2] (by kernel_rfl) (fun s => [4].getD s 0) (fun s => [1].getD s 0) (by
      intro s hs
      exact lt_getD 6 [4] (by decide) s hs) (by
      intro s hs
      exact lt_getD 6 [1] (by decide) s hs) (by
      intro i j hi hj h
      exact inj_getD [4] (by decide) i j hi hj h) (by kernel_rfl) (by
      intro s hs
      exact match s, hs with | 0, _ => ⟨_, rfl, rfl, rfl, rfl⟩) (by
      intro s hs
      exact match s, hs with | 0, _ => fun _ _ _ _ h => h) (by
      intro s hs
      exact match s, hs with | 0, _ => fun _ _ _ _ ⟨_, t, cs, e, k, _⟩ => ⟨cs, e, k.o11⟩) ?step ?stepL ?done
     case step =>
      intro ii hii a w9 v lo hi' hoth hb hw
      have sl3 : a.tmps[3]? = some (.pointer (some ⟨j3, 0, none⟩)) := (hoth 3 (fun j hj => ne_getD 3 _ (by decide) j hj)).trans rfl
      have sl4 : a.tmps[4]? = some (.pointer (some ⟨j4, 0, none⟩)) := (hoth 4 (fun j hj => ne_getD 4 _ (by decide) j hj)).trans rfl
      match ii, hii with
      | 0, _ =>
       have HRW := (hb.block _ (lt_row BA.out)).trans BA.out
       have ck0 : w9.cell? ⟨j3, 0, none⟩ = some qa0 := by rw [cell_of_row _ _ _ _ _ _ HRW]; rfl
       have ck1 : w9.cell? ⟨j3, 1, none⟩ = some qa1 := by rw [cell_of_row _ _ _ _ _ _ HRW]; rfl
       have ck2 : w9.cell? ⟨j3, 2, none⟩ = some qa2 := by rw [cell_of_row _ _ _ _ _ _ HRW]; rfl
       have ck3 : w9.cell? ⟨j3, 3, none⟩ = some qa3 := by rw [cell_of_row _ _ _ _ _ _ HRW]; rfl
       refine wpOp_step rfl fun K' hK' => ?_
       rw [if_pos (wanted_plain rfl)]
       unfold Oper.wp
       simp only [execOp]
       go_simp
       exact hK' _ _ ⟨_, rfl, Below.refl _ _, rfl⟩
      | 1, _ =>
       obtain ⟨s0, r0, _⟩ := hw 0 (by omega) (by kernel_rfl)
       have e0 : v 0 = .agg #[qa0, qa1, qa2, qa3] := r0
       rw [e0] at s0
       replace s0 : a.tmps[40]? = some (.agg #[qa0, qa1, qa2, qa3]) := s0
       refine gw_t rfl (wanted_plain rfl) 15 40 _ _ rfl (fun v w => by go_simp) s0 ?_
       with_reducible refine (KA.out w9 (chain2 HB.out hb (Nat.le_refl _))).mono ?_
       rintro e w3 ⟨t3, ⟨cs3, rfl, h3, hb3⟩, hm3⟩
       exact ⟨_, rfl, _, rfl, hb3, Nat.le_trans hb.size hb3.size, t3, cs3, rfl, h3.more (fun b hb0 => by rcases hb0 with h | h; exact h.elim; exact .inr ⟨Nat.le_trans hb.size h.1, h.2⟩), hm3⟩
      | 2, _ =>
       have HRW := (hb.block _ (lt_row BB.out)).trans BB.out
       have ck0 : w9.cell? ⟨j4, 0, none⟩ = some qb0 := by rw [cell_of_row _ _ _ _ _ _ HRW]; rfl
       have ck1 : w9.cell? ⟨j4, 1, none⟩ = some qb1 := by rw [cell_of_row _ _ _ _ _ _ HRW]; rfl
       have ck2 : w9.cell? ⟨j4, 2, none⟩ = some qb2 := by rw [cell_of_row _ _ _ _ _ _ HRW]; rfl
       have ck3 : w9.cell? ⟨j4, 3, none⟩ = some qb3 := by rw [cell_of_row _ _ _ _ _ _ HRW]; rfl
       refine wpOp_step rfl fun K' hK' => ?_
       rw [if_pos (wanted_plain rfl)]
       unfold Oper.wp
       simp only [execOp]
       go_simp
       exact hK' _ _ ⟨_, rfl, Below.refl _ _, rfl⟩
      | 3, _ =>
       obtain ⟨s0, r0, _⟩ := hw 2 (by omega) (by kernel_rfl)
       have e0 : v 2 = .agg #[qb0, qb1, qb2, qb3] := r0
       rw [e0] at s0
       replace s0 : a.tmps[42]? = some (.agg #[qb0, qb1, qb2, qb3]) := s0
       refine gw_t rfl (wanted_plain rfl) 15 42 _ _ rfl (fun v w => by go_simp) s0 ?_
       with_reducible refine (KB.out w9 (chain2 HB.out hb (Nat.le_refl _))).mono ?_
       rintro e w3 ⟨t3, ⟨cs3, rfl, h3, hb3⟩, hm3⟩
       exact ⟨_, rfl, _, rfl, hb3, Nat.le_trans hb.size hb3.size, t3, cs3, rfl, h3.more (fun b hb0 => by rcases hb0 with h | h; exact h.elim; exact .inr ⟨Nat.le_trans hb.size h.1, h.2⟩), hm3⟩
      | 4, _ =>
       refine wpOp_step rfl fun K' hK' => ?_
       rw [if_pos (wanted_plain rfl)]
       unfold Oper.wp
       simp only [execOp]
       go_simp
       exact hK' _ _ ⟨_, rfl, below_alT _ _, rfl, heap_alloc_new _ _, by simp⟩
      | 5, _ =>
       refine wpOp_step rfl fun K' hK' => ?_
       rw [if_pos (wanted_plain rfl)]
       unfold Oper.wp
       simp only [execOp]
       go_simp
       exact hK' _ _ ⟨_, rfl, below_alT _ _, rfl, heap_alloc_new _ _, by simp⟩
     case stepL =>
      intro ii hii hl a w1 w9 v lo hi' hoth hb0 hbk hsz hw
      have hb := BlkB.of hb0 hbk hsz
      have sl3 : a.tmps[3]? = some (.pointer (some ⟨j3, 0, none⟩)) := (hoth 3 (fun j hj => ne_getD 3 _ (by decide) j hj)).trans rfl
      have sl4 : a.tmps[4]? = some (.pointer (some ⟨j4, 0, none⟩)) := (hoth 4 (fun j hj => ne_getD 4 _ (by decide) j hj)).trans rfl
      match ii, hii with
      | 0, _ => exact absurd hl (by decide)
      | 1, _ => exact absurd hl (by decide)
      | 2, _ =>
       have HRW := (hb.block _ (lt_row BB.out)).trans BB.out
       have ck0 : w9.cell? ⟨j4, 0, none⟩ = some qb0 := by rw [cell_of_row _ _ _ _ _ _ HRW]; rfl
       have ck1 : w9.cell? ⟨j4, 1, none⟩ = some qb1 := by rw [cell_of_row _ _ _ _ _ _ HRW]; rfl
       have ck2 : w9.cell? ⟨j4, 2, none⟩ = some qb2 := by rw [cell_of_row _ _ _ _ _ _ HRW]; rfl
       have ck3 : w9.cell? ⟨j4, 3, none⟩ = some qb3 := by rw [cell_of_row _ _ _ _ _ _ HRW]; rfl
       refine wpOp_step rfl fun K' hK' => ?_
       rw [if_pos (wanted_plain rfl)]
       unfold Oper.wp
       simp only [execOp]
       go_simp
       exact hK' _ _ ⟨_, _, rfl, .inl ⟨rfl, rfl⟩, rfl⟩
      | 3, _ => exact absurd hl (by decide)
      | 4, _ => exact absurd hl (by decide)
      | 5, _ => exact absurd hl (by decide)
     case done =>
      intro a w9 v lo hi' css hdef hsz hoth hb hj hap hbx hvs
      obtain ⟨hv4, hbx0⟩ := hbx 0 (by omega)
      obtain ⟨hv1, ho0⟩ := hvs 0 (by omega)
      change v 4 = _ at hv4
      change v 1 = _ at hv1
      obtain ⟨_, ⟨hz1, ta, csa, hv1b, hta, hpa⟩, hlo1, hhi1⟩ := hj 1 (by omega)
      obtain ⟨_, ⟨hz3, tb, csb, hv3, htb, hpb⟩, hlo3, hhi3⟩ := hj 3 (by omega)
      obtain ⟨_, ⟨hv4b, hbx4, hlt4⟩, hlo4, hhi4⟩ := hj 4 (by omega)
      obtain ⟨_, ⟨hv5, hbx5, hlt5⟩, hlo5, hhi5⟩ := hj 5 (by omega)
      have ha := eq_puts hdef hsz hoth (fun i hi => (hj i hi).1)
      subst ha
      have hc0 : css 0 = csa := vTm_inj (hv1.symm.trans hv1b)
      clear hv1b hv4b
      clear hj hoth hdef hsz
      simp only [puts, List.getD_cons_zero, List.getD_cons_succ, hv4, hv1, hv3, hv5]
      generalize v 0 = v0
      generalize v 2 = v2
      simp only [Act.put, List.setIfInBounds_toArray, List.set_cons_zero, List.set_cons_succ]
      show wpList _ _ _ [_] _ _
      have hW : stW (stT lo (fun s => [4].getD s 0) css) w9 1 = w9.setRow (lo 4) (css 0).toArray := rfl
      rw [hW, hc0]
      have hap45 := hap 4 5 (by omega) (by omega) (by omega)
      have n67 : lo 4 ≠ lo 5 := by omega
      change TB w9 (lo 4) zT at hbx0
      have OA := hI hta.o11
      have OB := hI htb.o11
      have HPA := hI hpa
      have HPB := hI hpb
      have hl6 := hlo4
      have hl7 := hlo5
      have hB9 := hb
      clear hap hap45 hpa hpb hc0 hW ho0 hlo1 hlo3 hhi1 hhi3 hlt4 hlt5 hhi4 hhi5 hz1 hz3 hlo4 hlo5 hb
      generalize lo 4 = g7 at *
      generalize lo 5 = g8 at *
      have T8 : Hid (TB (w9.setRow g7 csa.toArray) g8 zT) := hbx5.other (fun e => n67 e.symm)
      have XA := TmAt.boxed (TmAt.boxed hta hbx0.nb csa.toArray) T8.out.nb csb.toArray
      have XB := TmAt.boxed (TmAt.boxed htb hbx0.nb csa.toArray) T8.out.nb csb.toArray
      have N7 : Hid (TB ((w9.setRow g7 csa.toArray).setRow g8 csb.toArray) g7 csa) := (hbx0.set csa).other n67
      have N8 : Hid (TB ((w9.setRow g7 csa.toArray).setRow g8 csb.toArray) g8 csb) := T8.out.set csb
      have hBY : Below w5.heap.size w5 ((w9.setRow g7 csa.toArray).setRow g8 csb.toArray) := below_setRowO (below_setRowO hB9 hl6 _) hl7 _
      have HBY : Hid (Below w.heap.size w ((w9.setRow g7 csa.toArray).setRow g8 csb.toArray)) := HB.out.trans (hBY.mono HB.out.size)
      have hup : ∀ b, Upto w5 ((w9.setRow g7 csa.toArray).setRow g8 csb.toArray) NoB b → Has ((w9.setRow g7 csa.toArray).setRow g8 csb.toArray) b := fun b hb => by rcases hb with h | ⟨_, h⟩; exact h.elim; exact h
      have HTA := hI (XA.more hup)
      have HTB := hI (XB.more hup)
      clear XA XB hup hBY hta htb hbx0 hbx5 n67 hl6 hl7 hB9 KA KB BA BB HB
      go_upto_region 6 with ((with_reducible refine storeTb (cs := csb) (.tmp 8) (.tmp 43) ?_ ?_ ?_ ?_ T8.out ?_ ?_ ?_ ?_); rfl; rfl; rfl; rfl; rfl; exact OB.out.1; exact OB.out.2)
      clear T8
      generalize ((w9.setRow g7 csa.toArray).setRow g8 csb.toArray) = Y at *
      replace HPV := hI (HPV.out.has HBY.out)
      have HNA : Hid (ta.nodes ≤ 120) := (show _ ≤ _ by have := mtP_nodes _ _ HPA.out; have := HCA.out; omega)
      have HNB : Hid (tb.nodes ≤ 120) := (show _ ≤ _ by have := mtP_nodes _ _ HPB.out; have := HCB.out; omega)
      clear HPA HPB HCA HCB
      obtain ⟨gz, hgz⟩ : ∃ g, Y.heap.size = g := ⟨_, rfl⟩
      have hmk := makeI LP (by omega) Y
      rw [hgz] at hmk
      have r0 : IRow (Y.alloc (.cells (Array.replicate LP (Value.int .i64 0)) 3)) gz (List.replicate LP 0) := by rw [← hgz]; exact IRow.new Y LP
      have h0 : Hid ((List.replicate LP (0 : Int)).length = LP ∧ IRow (Y.alloc (.cells (Array.replicate LP (Value.int .i64 0)) 3)) gz (List.replicate LP 0) ∧ Below Y.heap.size Y (Y.alloc (.cells (Array.replicate LP (Value.int .i64 0)) 3))) := ⟨by simp, r0, Below.alloc (Below.refl _ _) (Nat.le_refl _) _⟩
      have HGZ : Hid (Y.heap.size ≤ gz) := Nat.le_of_eq hgz
      clear r0 hgz
      go_upto_region 7 with fail
      clear hmk
      obtain ⟨z0, hz0⟩ : ∃ z : List Int, List.replicate LP 0 = z := ⟨_, rfl⟩
      rw [hz0] at h0
      clear hz0
      generalize (Y.alloc (.cells (Array.replicate LP (Value.int .i64 0)) 3)) = Z at *
      go_wp2_with fail
      go_loopw [10] (fun v wr => ∃ (i : Nat) (zs : List Int), i ≤ LP ∧ v = .int .i64 (i : Int) ∧ Hid (zs.length = LP ∧ IRow wr gz zs ∧ Below Y.heap.size Y wr)) (fun v _ => LP - (intOf v).toNat)
      case atStart => exact ⟨0, z0, Nat.zero_le _, rfl, h0⟩
      case round =>
       clear h0
       obtain ⟨i, zs, hi, rfl, hE⟩ := hrel
       obtain ⟨wo, rfl⟩ : ∃ wo : World, wo = wr := ⟨_, rfl⟩
       obtain ⟨hzl, hrow, hbel⟩ := hE.out
       clear hE
       by_cases hlt : i < LP
       · have hip : i < pl.length := by rw [HLP.out]; exact hlt
         obtain ⟨A9, c9, e9, _, hc9⟩ := HPV.out
         injection e9 with e91 e92 e93
         obtain ⟨bp, op, rfl, hbp, hcell⟩ := hc9 (by omega)
         subst e91
         have p0 := (hbel.cell (p := ⟨bp, op + i, none⟩) hbp).trans (hcell i hip)
         obtain ⟨hx1, hx2⟩ := HBP.out _ (List.getElem_mem hip)
         generalize pl[i] = x at p0 hx1 hx2
         have c0 := hrow.cell (i := i) (by omega)
         have f0 := hrow.free i
         have HZL := hI hzl
         have HROW := hI hrow
         have HBEL := hI hbel
         have hzi : i < zs.length := by omega
         generalize zs[i] = z at c0
         clear hzl hrow hbel hcell hc9 e92 e93 hbp
         go_wp2_with fail
         refine (modO x 4 wo hx1 hx2 (by decide) (by decide)).mono ?_
         rintro e w' ⟨rfl, rfl⟩
         have m1 := Int.emod_nonneg x (show (4 : Int) ≠ 0 by decide)
         have m2 := Int.emod_lt_of_pos x (show (0 : Int) < 4 by decide)
         generalize x % 4 = m at *
         have hs1 := HROW.out.set i (m - 1)
         have hk1 : Below Y.heap.size Y (wo.setCell ⟨gz, i, none⟩ (.int .i64 (m - 1))) := HBEL.out.setCell HGZ.out _
         have c1 := hs1.cell (i := i) (by rw [List.length_set]; omega)
         have f1 := hs1.free i
         rw [List.getElem_set_self] at c1
         have hs2 := hs1.set i 0
         have hk2 : Below Y.heap.size Y ((wo.setCell ⟨gz, i, none⟩ (.int .i64 (m - 1))).setCell ⟨gz, i, none⟩ (.int .i64 0)) := hk1.setCell HGZ.out _
         have H1 : Hid (((zs.set i (m - 1)).length = LP) ∧ IRow (wo.setCell ⟨gz, i, none⟩ (.int .i64 (m - 1))) gz (zs.set i (m - 1)) ∧ Below Y.heap.size Y (wo.setCell ⟨gz, i, none⟩ (.int .i64 (m - 1)))) := ⟨by rw [List.length_set]; exact HZL.out, hs1, hk1⟩
         have H2 : Hid ((((zs.set i (m - 1)).set i 0).length = LP) ∧ IRow ((wo.setCell ⟨gz, i, none⟩ (.int .i64 (m - 1))).setCell ⟨gz, i, none⟩ (.int .i64 0)) gz ((zs.set i (m - 1)).set i 0) ∧ Below Y.heap.size Y ((wo.setCell ⟨gz, i, none⟩ (.int .i64 (m - 1))).setCell ⟨gz, i, none⟩ (.int .i64 0))) := ⟨by rw [List.length_set, List.length_set]; exact HZL.out, hs2, hk2⟩
         clear hs1 hk1 hs2 hk2 HROW HBEL HZL p0
         by_cases hm : m - 1 < 0
         · go_wp2_with fail
           go_roundw
           case rel => exact ⟨i + 1, _, by omega, by go_num, H2⟩
           case measure => simp [intOf]; omega
         · go_wp2_with fail
           go_roundw
           case rel => exact ⟨i + 1, _, by omega, by go_num, H1⟩
           case measure => simp [intOf]; omega
       · have hn2 : ¬ (i : Int) < LP := by omega
         have hpz0 := hrow.isV
         rw [hzl] at hpz0
         have HPZ := hI hpz0
         have HZL := hI hzl
         replace HTA := hI (HTA.out.has hbel)
         replace HTB := hI (HTB.out.has hbel)
         replace HPV := hI (HPV.out.has hbel)
         replace N7 := hI (N7.out.keep hbel)
         replace N8 := hI (N8.out.keep hbel)
         have HB : Hid (Below w.heap.size w wo) := HBY.out.trans (hbel.mono HBY.out.size)
         clear hpz0 hzl hrow hbel hlt HBY HBP HGZ
         obtain ⟨X0, hX0⟩ : ∃ X : World, wo = X := ⟨_, rfl⟩
         subst hX0
         clear hi
         obtain ⟨R1, hR1⟩ : ∃ R, atP ta zs = R := ⟨_, rfl⟩
         obtain ⟨R2, hR2⟩ : ∃ R, putO ta zs tb = R := ⟨_, rfl⟩
         obtain ⟨R3, hR3⟩ : ∃ R, atP ta pl = R := ⟨_, rfl⟩
         have HR1 := hI hR1
         have HR2 := hI hR2
         have HR3 := hI hR3
         clear hR1 hR2 hR3
         have C13 : Hid (Calls Tryz.prog 42 #[vTm csa, .slice (some ⟨gz, 0, none⟩) LP LP] wo (RetU wo R1)) := (show Calls _ _ _ _ _ by rw [← HR1.out]; exact atU (some ta) csa zs _ wo HTA.out HPZ.out (by have := HZL.out; omega) (fun h => by cases h))
         go_wp2_with (first | ((with_reducible refine loadTb (cs := csa) (.tmp 7) ?_ ?_ ?_ N7.out ?_ ?_); rfl; rfl; rfl; exact OA.out.1))
         refine C13.out.mono ?_
         rintro e w13 ⟨cs13, rfl, ho, hb⟩
         have O11 := hI ho.o11
         have TX : Hid (TB (w13.alloc (.cells #[.int .i64 0, .string ⟨#[]⟩, .string ⟨#[]⟩, .int .i64 0, .string ⟨#[]⟩, .string ⟨#[]⟩, .string ⟨#[]⟩, .string ⟨#[]⟩, .string ⟨#[]⟩, .slice none 0 0, .slice none 0 0] 35)) w13.heap.size zT) := heap_alloc_new w13 _
         have hX : Below wo.heap.size wo ((w13.alloc (.cells #[.int .i64 0, .string ⟨#[]⟩, .string ⟨#[]⟩, .int .i64 0, .string ⟨#[]⟩, .string ⟨#[]⟩, .string ⟨#[]⟩, .string ⟨#[]⟩, .string ⟨#[]⟩, .slice none 0 0, .slice none 0 0] 35)).setRow w13.heap.size cs13.toArray) := below_setRowO (Below.alloc hb hb.size _) hb.size _
         have hwX : Below w13.heap.size w13 ((w13.alloc (.cells #[.int .i64 0, .string ⟨#[]⟩, .string ⟨#[]⟩, .int .i64 0, .string ⟨#[]⟩, .string ⟨#[]⟩, .string ⟨#[]⟩, .string ⟨#[]⟩, .string ⟨#[]⟩, .slice none 0 0, .slice none 0 0] 35)).setRow w13.heap.size cs13.toArray) := below_setRowO (below_alT w13 _) (Nat.le_refl _) _
         replace HTA := hI (HTA.out.has hX)
         replace HTB := hI (HTB.out.has hX)
         replace HPV := hI (HPV.out.has hX)
         replace HPZ := hI (HPZ.out.has hX)
         replace N7 := hI (N7.out.keep hX)
         replace N8 := hI (N8.out.keep hX)
         replace HB := hI (HB.out.trans (hX.mono HB.out.size))
         have HO11 := hI (ho.below hwX)
         have N11 : Hid (TB ((w13.alloc (.cells #[.int .i64 0, .string ⟨#[]⟩, .string ⟨#[]⟩, .int .i64 0, .string ⟨#[]⟩, .string ⟨#[]⟩, .string ⟨#[]⟩, .string ⟨#[]⟩, .string ⟨#[]⟩, .slice none 0 0, .slice none 0 0] 35)).setRow w13.heap.size cs13.toArray) w13.heap.size cs13) := TX.out.set _
         clear ho hb hX hwX C13
         go_upto_region 14 with ((with_reducible refine storeTb (cs := cs13) (.tmp 11) (.tmp 74) ?_ ?_ ?_ ?_ TX.out ?_ ?_ ?_ ?_); rfl; rfl; rfl; rfl; rfl; exact O11.out.1; exact O11.out.2)
         clear TX
         generalize ((w13.alloc (.cells #[.int .i64 0, .string ⟨#[]⟩, .string ⟨#[]⟩, .int .i64 0, .string ⟨#[]⟩, .string ⟨#[]⟩, .string ⟨#[]⟩, .string ⟨#[]⟩, .string ⟨#[]⟩, .slice none 0 0, .slice none 0 0] 35)).setRow w13.heap.size cs13.toArray) = X13 at *
         generalize w13.heap.size = g11 at *
         have C14 : Hid (Calls Tryz.prog 43 #[vTm csa, .slice (some ⟨gz, 0, none⟩) LP LP] X13 (RetU X13 R1)) := (show Calls _ _ _ _ _ by rw [← HR1.out]; exact atRU ta csa zs _ X13 HTA.out HPZ.out (by have := HZL.out; omega))
         go_wp2_with (first | ((with_reducible refine loadTb (cs := csa) (.tmp 7) ?_ ?_ ?_ N7.out ?_ ?_); rfl; rfl; rfl; exact OA.out.1))
         refine C14.out.mono ?_
         rintro e w14 ⟨cs14, rfl, ho, hb⟩
         have O13 := hI ho.o11
         have TX : Hid (TB (w14.alloc (.cells #[.int .i64 0, .string ⟨#[]⟩, .string ⟨#[]⟩, .int .i64 0, .string ⟨#[]⟩, .string ⟨#[]⟩, .string ⟨#[]⟩, .string ⟨#[]⟩, .string ⟨#[]⟩, .slice none 0 0, .slice none 0 0] 35)) w14.heap.size zT) := heap_alloc_new w14 _
         have hX : Below X13.heap.size X13 ((w14.alloc (.cells #[.int .i64 0, .string ⟨#[]⟩, .string ⟨#[]⟩, .int .i64 0, .string ⟨#[]⟩, .string ⟨#[]⟩, .string ⟨#[]⟩, .string ⟨#[]⟩, .string ⟨#[]⟩, .slice none 0 0, .slice none 0 0] 35)).setRow w14.heap.size cs14.toArray) := below_setRowO (Below.alloc hb hb.size _) hb.size _
         have hwX : Below w14.heap.size w14 ((w14.alloc (.cells #[.int .i64 0, .string ⟨#[]⟩, .string ⟨#[]⟩, .int .i64 0, .string ⟨#[]⟩, .string ⟨#[]⟩, .string ⟨#[]⟩, .string ⟨#[]⟩, .string ⟨#[]⟩, .slice none 0 0, .slice none 0 0] 35)).setRow w14.heap.size cs14.toArray) := below_setRowO (below_alT w14 _) (Nat.le_refl _) _
         replace HTA := hI (HTA.out.has hX)
         replace HTB := hI (HTB.out.has hX)
         replace HPV := hI (HPV.out.has hX)
         replace HPZ := hI (HPZ.out.has hX)
         replace N7 := hI (N7.out.keep hX)
         replace N8 := hI (N8.out.keep hX)
         replace HO11 := hI (HO11.out.below hX)
         replace N11 := hI (N11.out.keep hX)
         replace HB := hI (HB.out.trans (hX.mono HB.out.size))
         have HO13 := hI (ho.below hwX)
         have N13 : Hid (TB ((w14.alloc (.cells #[.int .i64 0, .string ⟨#[]⟩, .string ⟨#[]⟩, .int .i64 0, .string ⟨#[]⟩, .string ⟨#[]⟩, .string ⟨#[]⟩, .string ⟨#[]⟩, .string ⟨#[]⟩, .slice none 0 0, .slice none 0 0] 35)).setRow w14.heap.size cs14.toArray) w14.heap.size cs14) := TX.out.set _
         clear ho hb hX hwX C14
         go_upto_region 15 with ((with_reducible refine storeTb (cs := cs14) (.tmp 13) (.tmp 80) ?_ ?_ ?_ ?_ TX.out ?_ ?_ ?_ ?_); rfl; rfl; rfl; rfl; rfl; exact O13.out.1; exact O13.out.2)
         clear TX
         generalize ((w14.alloc (.cells #[.int .i64 0, .string ⟨#[]⟩, .string ⟨#[]⟩, .int .i64 0, .string ⟨#[]⟩, .string ⟨#[]⟩, .string ⟨#[]⟩, .string ⟨#[]⟩, .string ⟨#[]⟩, .slice none 0 0, .slice none 0 0] 35)).setRow w14.heap.size cs14.toArray) = X14 at *
         generalize w14.heap.size = g13 at *
         have C15 : Hid (Calls Tryz.prog 44 #[vTm csa, .slice (some ⟨gz, 0, none⟩) LP LP, vTm csb] X14 (RetU X14 R2)) := (show Calls _ _ _ _ _ by rw [← HR2.out]; exact putU ta tb csa csb zs _ X14 HTA.out HTB.out HPZ.out (by have := HZL.out; omega) (by have := HNA.out; omega))
         go_wp2_with (first | ((with_reducible refine loadTb (cs := csa) (.tmp 7) ?_ ?_ ?_ N7.out ?_ ?_); rfl; rfl; rfl; exact OA.out.1) | ((with_reducible refine loadTb (cs := csb) (.tmp 8) ?_ ?_ ?_ N8.out ?_ ?_); rfl; rfl; rfl; exact OB.out.1))
         refine C15.out.mono ?_
         rintro e w15 ⟨cs15, rfl, ho, hb⟩
         have O15 := hI ho.o11
         have TX : Hid (TB (w15.alloc (.cells #[.int .i64 0, .string ⟨#[]⟩, .string ⟨#[]⟩, .int .i64 0, .string ⟨#[]⟩, .string ⟨#[]⟩, .string ⟨#[]⟩, .string ⟨#[]⟩, .string ⟨#[]⟩, .slice none 0 0, .slice none 0 0] 35)) w15.heap.size zT) := heap_alloc_new w15 _
         have hX : Below X14.heap.size X14 ((w15.alloc (.cells #[.int .i64 0, .string ⟨#[]⟩, .string ⟨#[]⟩, .int .i64 0, .string ⟨#[]⟩, .string ⟨#[]⟩, .string ⟨#[]⟩, .string ⟨#[]⟩, .string ⟨#[]⟩, .slice none 0 0, .slice none 0 0] 35)).setRow w15.heap.size cs15.toArray) := below_setRowO (Below.alloc hb hb.size _) hb.size _
         have hwX : Below w15.heap.size w15 ((w15.alloc (.cells #[.int .i64 0, .string ⟨#[]⟩, .string ⟨#[]⟩, .int .i64 0, .string ⟨#[]⟩, .string ⟨#[]⟩, .string ⟨#[]⟩, .string ⟨#[]⟩, .string ⟨#[]⟩, .slice none 0 0, .slice none 0 0] 35)).setRow w15.heap.size cs15.toArray) := below_setRowO (below_alT w15 _) (Nat.le_refl _) _
         replace HTA := hI (HTA.out.has hX)
         replace HTB := hI (HTB.out.has hX)
         replace HPV := hI (HPV.out.has hX)
         replace HPZ := hI (HPZ.out.has hX)
         replace N7 := hI (N7.out.keep hX)
         replace N8 := hI (N8.out.keep hX)
         replace HO11 := hI (HO11.out.below hX)
         replace N11 := hI (N11.out.keep hX)
         replace HO13 := hI (HO13.out.below hX)
         replace N13 := hI (N13.out.keep hX)
         replace HB := hI (HB.out.trans (hX.mono HB.out.size))
         have HO15 := hI (ho.below hwX)
         have N15 : Hid (TB ((w15.alloc (.cells #[.int .i64 0, .string ⟨#[]⟩, .string ⟨#[]⟩, .int .i64 0, .string ⟨#[]⟩, .string ⟨#[]⟩, .string ⟨#[]⟩, .string ⟨#[]⟩, .string ⟨#[]⟩, .slice none 0 0, .slice none 0 0] 35)).setRow w15.heap.size cs15.toArray) w15.heap.size cs15) := TX.out.set _
         clear ho hb hX hwX C15
         go_upto_region 16 with ((with_reducible refine storeTb (cs := cs15) (.tmp 15) (.tmp 87) ?_ ?_ ?_ ?_ TX.out ?_ ?_ ?_ ?_); rfl; rfl; rfl; rfl; rfl; exact O15.out.1; exact O15.out.2)
         clear TX
         generalize ((w15.alloc (.cells #[.int .i64 0, .string ⟨#[]⟩, .string ⟨#[]⟩, .int .i64 0, .string ⟨#[]⟩, .string ⟨#[]⟩, .string ⟨#[]⟩, .string ⟨#[]⟩, .string ⟨#[]⟩, .slice none 0 0, .slice none 0 0] 35)).setRow w15.heap.size cs15.toArray) = X15 at *
         generalize w15.heap.size = g15 at *
         have C16 : Hid (Calls Tryz.prog 45 #[vTm csa, .slice (some ⟨gz, 0, none⟩) LP LP, vTm csb] X15 (RetU X15 R2)) := (show Calls _ _ _ _ _ by rw [← HR2.out]; exact putRU ta tb csa csb zs _ X15 HTA.out HTB.out HPZ.out (by have := HZL.out; omega) (by have := HNA.out; omega))
         go_wp2_with (first | ((with_reducible refine loadTb (cs := csa) (.tmp 7) ?_ ?_ ?_ N7.out ?_ ?_); rfl; rfl; rfl; exact OA.out.1) | ((with_reducible refine loadTb (cs := csb) (.tmp 8) ?_ ?_ ?_ N8.out ?_ ?_); rfl; rfl; rfl; exact OB.out.1))
         refine C16.out.mono ?_
         rintro e w16 ⟨cs16, rfl, ho, hb⟩
         have O17 := hI ho.o11
         have TX : Hid (TB (w16.alloc (.cells #[.int .i64 0, .string ⟨#[]⟩, .string ⟨#[]⟩, .int .i64 0, .string ⟨#[]⟩, .string ⟨#[]⟩, .string ⟨#[]⟩, .string ⟨#[]⟩, .string ⟨#[]⟩, .slice none 0 0, .slice none 0 0] 35)) w16.heap.size zT) := heap_alloc_new w16 _
         have hX : Below X15.heap.size X15 ((w16.alloc (.cells #[.int .i64 0, .string ⟨#[]⟩, .string ⟨#[]⟩, .int .i64 0, .string ⟨#[]⟩, .string ⟨#[]⟩, .string ⟨#[]⟩, .string ⟨#[]⟩, .string ⟨#[]⟩, .slice none 0 0, .slice none 0 0] 35)).setRow w16.heap.size cs16.toArray) := below_setRowO (Below.alloc hb hb.size _) hb.size _
         have hwX : Below w16.heap.size w16 ((w16.alloc (.cells #[.int .i64 0, .string ⟨#[]⟩, .string ⟨#[]⟩, .int .i64 0, .string ⟨#[]⟩, .string ⟨#[]⟩, .string ⟨#[]⟩, .string ⟨#[]⟩, .string ⟨#[]⟩, .slice none 0 0, .slice none 0 0] 35)).setRow w16.heap.size cs16.toArray) := below_setRowO (below_alT w16 _) (Nat.le_refl _) _
         replace HTA := hI (HTA.out.has hX)
         replace HTB := hI (HTB.out.has hX)
         replace HPV := hI (HPV.out.has hX)
         replace HPZ := hI (HPZ.out.has hX)
         replace N7 := hI (N7.out.keep hX)
         replace N8 := hI (N8.out.keep hX)
         replace HO11 := hI (HO11.out.below hX)
         replace N11 := hI (N11.out.keep hX)
         replace HO13 := hI (HO13.out.below hX)
         replace N13 := hI (N13.out.keep hX)
         replace HO15 := hI (HO15.out.below hX)
         replace N15 := hI (N15.out.keep hX)
         replace HB := hI (HB.out.trans (hX.mono HB.out.size))
         have HO17 := hI (ho.below hwX)
         have N17 : Hid (TB ((w16.alloc (.cells #[.int .i64 0, .string ⟨#[]⟩, .string ⟨#[]⟩, .int .i64 0, .string ⟨#[]⟩, .string ⟨#[]⟩, .string ⟨#[]⟩, .string ⟨#[]⟩, .string ⟨#[]⟩, .slice none 0 0, .slice none 0 0] 35)).setRow w16.heap.size cs16.toArray) w16.heap.size cs16) := TX.out.set _
         clear ho hb hX hwX C16
         go_upto_region 17 with ((with_reducible refine storeTb (cs := cs16) (.tmp 17) (.tmp 94) ?_ ?_ ?_ ?_ TX.out ?_ ?_ ?_ ?_); rfl; rfl; rfl; rfl; rfl; exact O17.out.1; exact O17.out.2)
         clear TX
         generalize ((w16.alloc (.cells #[.int .i64 0, .string ⟨#[]⟩, .string ⟨#[]⟩, .int .i64 0, .string ⟨#[]⟩, .string ⟨#[]⟩, .string ⟨#[]⟩, .string ⟨#[]⟩, .string ⟨#[]⟩, .slice none 0 0, .slice none 0 0] 35)).setRow w16.heap.size cs16.toArray) = X16 at *
         generalize w16.heap.size = g17 at *
         have HN1 : Hid (∀ t, R1 = some t → t.nodes ≤ 3000) := fun t h => by
          have h1 := atP_nodes zs ta t (HR1.out.trans h)
          have := HNA.out
          omega
         have HN2 : Hid (∀ t, R2 = some t → t.nodes ≤ 3000) := fun t h => by
          obtain ⟨h1, h2⟩ := putO_some (HR2.out.trans h)
          rw [h2]
          have := putP_nodes tb zs ta h1
          have := HNA.out
          have := HNB.out
          omega
         have hn1 : (R1.isSome != R1.isSome) = false := bne_self_eq_false _
         have hn2' : (R2.isSome != R2.isSome) = false := bne_self_eq_false _
         have HI12 : Hid (R2.isSome = R1.isSome) := (show _ = _ by rw [← HR2.out, ← HR1.out]; exact putO_isSome _ _ _)
         obtain ⟨r1, hr1⟩ : ∃ r, R1.isSome = r := ⟨_, rfl⟩
         obtain ⟨r2, hr2⟩ : ∃ r, R2.isSome = r := ⟨_, rfl⟩
         rw [hr1] at hn1 ⊢
         rw [hr2] at hn2' ⊢
         have HQ2 := hI hr2
         clear hr1 hr2
         have C171 : Hid (Calls Tryz.prog 17 #[vTm cs13, vTm cs14] X16 (RetB X16 true)) := eqU R1 X16 _ _ HN1.out HO11.out HO13.out
         try dsimp only
         repeat (first | ((with_reducible refine loadTb (cs := cs13) (.tmp 11) ?_ ?_ ?_ N11.out ?_ ?_); rfl; rfl; rfl; exact O11.out.1) | ((with_reducible refine loadTb (cs := cs14) (.tmp 13) ?_ ?_ ?_ N13.out ?_ ?_); rfl; rfl; rfl; exact O13.out.1) | ((with_reducible refine loadTg (cs := cs13) (.tmp 11) ?_ ?_ ?_ N11.out ?_ ?_); rfl; rfl; rfl; exact O11.out.1) | ((with_reducible refine loadTg (cs := cs14) (.tmp 13) ?_ ?_ ?_ N13.out ?_ ?_); rfl; rfl; rfl; exact O13.out.1) | go_skip | go_guarded | go_step | go_upon | go_back)
         refine C171.out.mono ?_
         rintro e X171 ⟨rfl, hb⟩
         replace HTA := hI (HTA.out.has hb)
         replace HTB := hI (HTB.out.has hb)
         replace HPV := hI (HPV.out.has hb)
         replace HPZ := hI (HPZ.out.has hb)
         replace N7 := hI (N7.out.keep hb)
         replace N8 := hI (N8.out.keep hb)
         replace HO11 := hI (HO11.out.below hb)
         replace N11 := hI (N11.out.keep hb)
         replace HO13 := hI (HO13.out.below hb)
         replace N13 := hI (N13.out.keep hb)
         replace HO15 := hI (HO15.out.below hb)
         replace N15 := hI (N15.out.keep hb)
         replace HO17 := hI (HO17.out.below hb)
         replace N17 := hI (N17.out.keep hb)
         replace HB := hI (HB.out.trans (hb.mono HB.out.size))
         clear hb C171
         have C172 : Hid (Calls Tryz.prog 17 #[vTm cs15, vTm cs16] X171 (RetB X171 true)) := eqU R2 X171 _ _ HN2.out HO15.out HO17.out
         try dsimp only
         repeat (first | ((with_reducible refine loadTb (cs := cs15) (.tmp 15) ?_ ?_ ?_ N15.out ?_ ?_); rfl; rfl; rfl; exact O15.out.1) | ((with_reducible refine loadTb (cs := cs16) (.tmp 17) ?_ ?_ ?_ N17.out ?_ ?_); rfl; rfl; rfl; exact O17.out.1) | ((with_reducible refine loadTg (cs := cs15) (.tmp 15) ?_ ?_ ?_ N15.out ?_ ?_); rfl; rfl; rfl; exact O15.out.1) | ((with_reducible refine loadTg (cs := cs16) (.tmp 17) ?_ ?_ ?_ N17.out ?_ ?_); rfl; rfl; rfl; exact O17.out.1) | go_skip | go_guarded | go_step | go_upon | go_back)
         refine C172.out.mono ?_
         rintro e X172 ⟨rfl, hb⟩
         replace HTA := hI (HTA.out.has hb)
         replace HTB := hI (HTB.out.has hb)
         replace HPV := hI (HPV.out.has hb)
         replace HPZ := hI (HPZ.out.has hb)
         replace N7 := hI (N7.out.keep hb)
         replace N8 := hI (N8.out.keep hb)
         replace HO11 := hI (HO11.out.below hb)
         replace N11 := hI (N11.out.keep hb)
         replace HO13 := hI (HO13.out.below hb)
         replace N13 := hI (N13.out.keep hb)
         replace HO15 := hI (HO15.out.below hb)
         replace N15 := hI (N15.out.keep hb)
         replace HO17 := hI (HO17.out.below hb)
         replace N17 := hI (N17.out.keep hb)
         replace HB := hI (HB.out.trans (hb.mono HB.out.size))
         clear hb C172
         try dsimp only
         go_upto_region 19 with (first | go_skip | go_guarded | go_step | go_upon | go_back)
         have C19 : Hid (Calls Tryz.prog 42 #[vTm csa, .slice AP LP cP] X172 (RetU X172 R3)) := (show Calls _ _ _ _ _ by rw [← HR3.out]; exact atU (some ta) csa pl _ X172 HTA.out HPV.out (by have := HLP.out; omega) (fun h => by cases h))
         go_wp2_with (first | ((with_reducible refine loadTb (cs := csa) (.tmp 7) ?_ ?_ ?_ N7.out ?_ ?_); rfl; rfl; rfl; exact OA.out.1))
         refine C19.out.mono ?_
         rintro e w19 ⟨cs19, rfl, ho, hb⟩
         have O19 := hI ho.o11
         have TX : Hid (TB (w19.alloc (.cells #[.int .i64 0, .string ⟨#[]⟩, .string ⟨#[]⟩, .int .i64 0, .string ⟨#[]⟩, .string ⟨#[]⟩, .string ⟨#[]⟩, .string ⟨#[]⟩, .string ⟨#[]⟩, .slice none 0 0, .slice none 0 0] 35)) w19.heap.size zT) := heap_alloc_new w19 _
         have hX : Below X172.heap.size X172 ((w19.alloc (.cells #[.int .i64 0, .string ⟨#[]⟩, .string ⟨#[]⟩, .int .i64 0, .string ⟨#[]⟩, .string ⟨#[]⟩, .string ⟨#[]⟩, .string ⟨#[]⟩, .string ⟨#[]⟩, .slice none 0 0, .slice none 0 0] 35)).setRow w19.heap.size cs19.toArray) := below_setRowO (Below.alloc hb hb.size _) hb.size _
         have hwX : Below w19.heap.size w19 ((w19.alloc (.cells #[.int .i64 0, .string ⟨#[]⟩, .string ⟨#[]⟩, .int .i64 0, .string ⟨#[]⟩, .string ⟨#[]⟩, .string ⟨#[]⟩, .string ⟨#[]⟩, .string ⟨#[]⟩, .slice none 0 0, .slice none 0 0] 35)).setRow w19.heap.size cs19.toArray) := below_setRowO (below_alT w19 _) (Nat.le_refl _) _
         replace HTA := hI (HTA.out.has hX)
         replace HTB := hI (HTB.out.has hX)
         replace HPV := hI (HPV.out.has hX)
         replace HPZ := hI (HPZ.out.has hX)
         replace N7 := hI (N7.out.keep hX)
         replace N8 := hI (N8.out.keep hX)
         replace HO11 := hI (HO11.out.below hX)
         replace N11 := hI (N11.out.keep hX)
         replace HO13 := hI (HO13.out.below hX)
         replace N13 := hI (N13.out.keep hX)
         replace HO15 := hI (HO15.out.below hX)
         replace N15 := hI (N15.out.keep hX)
         replace HO17 := hI (HO17.out.below hX)
         replace N17 := hI (N17.out.keep hX)
         replace HB := hI (HB.out.trans (hX.mono HB.out.size))
         have HO19 := hI (ho.below hwX)
         have N19 : Hid (TB ((w19.alloc (.cells #[.int .i64 0, .string ⟨#[]⟩, .string ⟨#[]⟩, .int .i64 0, .string ⟨#[]⟩, .string ⟨#[]⟩, .string ⟨#[]⟩, .string ⟨#[]⟩, .string ⟨#[]⟩, .slice none 0 0, .slice none 0 0] 35)).setRow w19.heap.size cs19.toArray) w19.heap.size cs19) := TX.out.set _
         clear ho hb hX hwX C19
         go_upto_region 20 with ((with_reducible refine storeTb (cs := cs19) (.tmp 19) (.tmp 120) ?_ ?_ ?_ ?_ TX.out ?_ ?_ ?_ ?_); rfl; rfl; rfl; rfl; rfl; exact O19.out.1; exact O19.out.2)
         clear TX
         generalize ((w19.alloc (.cells #[.int .i64 0, .string ⟨#[]⟩, .string ⟨#[]⟩, .int .i64 0, .string ⟨#[]⟩, .string ⟨#[]⟩, .string ⟨#[]⟩, .string ⟨#[]⟩, .string ⟨#[]⟩, .slice none 0 0, .slice none 0 0] 35)).setRow w19.heap.size cs19.toArray) = X19 at *
         generalize w19.heap.size = g19 at *
         have C20 : Hid (Calls Tryz.prog 43 #[vTm csa, .slice AP LP cP] X19 (RetU X19 R3)) := (show Calls _ _ _ _ _ by rw [← HR3.out]; exact atRU ta csa pl _ X19 HTA.out HPV.out (by have := HLP.out; omega))
         go_wp2_with (first | ((with_reducible refine loadTb (cs := csa) (.tmp 7) ?_ ?_ ?_ N7.out ?_ ?_); rfl; rfl; rfl; exact OA.out.1))
         refine C20.out.mono ?_
         rintro e w20 ⟨cs20, rfl, ho, hb⟩
         have O21 := hI ho.o11
         have TX : Hid (TB (w20.alloc (.cells #[.int .i64 0, .string ⟨#[]⟩, .string ⟨#[]⟩, .int .i64 0, .string ⟨#[]⟩, .string ⟨#[]⟩, .string ⟨#[]⟩, .string ⟨#[]⟩, .string ⟨#[]⟩, .slice none 0 0, .slice none 0 0] 35)) w20.heap.size zT) := heap_alloc_new w20 _
         have hX : Below X19.heap.size X19 ((w20.alloc (.cells #[.int .i64 0, .string ⟨#[]⟩, .string ⟨#[]⟩, .int .i64 0, .string ⟨#[]⟩, .string ⟨#[]⟩, .string ⟨#[]⟩, .string ⟨#[]⟩, .string ⟨#[]⟩, .slice none 0 0, .slice none 0 0] 35)).setRow w20.heap.size cs20.toArray) := below_setRowO (Below.alloc hb hb.size _) hb.size _
         have hwX : Below w20.heap.size w20 ((w20.alloc (.cells #[.int .i64 0, .string ⟨#[]⟩, .string ⟨#[]⟩, .int .i64 0, .string ⟨#[]⟩, .string ⟨#[]⟩, .string ⟨#[]⟩, .string ⟨#[]⟩, .string ⟨#[]⟩, .slice none 0 0, .slice none 0 0] 35)).setRow w20.heap.size cs20.toArray) := below_setRowO (below_alT w20 _) (Nat.le_refl _) _
         replace HTA := hI (HTA.out.has hX)
         replace HTB := hI (HTB.out.has hX)
         replace HPV := hI (HPV.out.has hX)
         replace HPZ := hI (HPZ.out.has hX)
         replace N7 := hI (N7.out.keep hX)
         replace N8 := hI (N8.out.keep hX)
         replace HO11 := hI (HO11.out.below hX)
         replace N11 := hI (N11.out.keep hX)
         replace HO13 := hI (HO13.out.below hX)
         replace N13 := hI (N13.out.keep hX)
         replace HO15 := hI (HO15.out.below hX)
         replace N15 := hI (N15.out.keep hX)
         replace HO17 := hI (HO17.out.below hX)
         replace N17 := hI (N17.out.keep hX)
         replace HO19 := hI (HO19.out.below hX)
         replace N19 := hI (N19.out.keep hX)
         replace HB := hI (HB.out.trans (hX.mono HB.out.size))
         have HO21 := hI (ho.below hwX)
         have N21 : Hid (TB ((w20.alloc (.cells #[.int .i64 0, .string ⟨#[]⟩, .string ⟨#[]⟩, .int .i64 0, .string ⟨#[]⟩, .string ⟨#[]⟩, .string ⟨#[]⟩, .string ⟨#[]⟩, .string ⟨#[]⟩, .slice none 0 0, .slice none 0 0] 35)).setRow w20.heap.size cs20.toArray) w20.heap.size cs20) := TX.out.set _
         clear ho hb hX hwX C20
         go_upto_region 21 with ((with_reducible refine storeTb (cs := cs20) (.tmp 21) (.tmp 126) ?_ ?_ ?_ ?_ TX.out ?_ ?_ ?_ ?_); rfl; rfl; rfl; rfl; rfl; exact O21.out.1; exact O21.out.2)
         clear TX
         generalize ((w20.alloc (.cells #[.int .i64 0, .string ⟨#[]⟩, .string ⟨#[]⟩, .int .i64 0, .string ⟨#[]⟩, .string ⟨#[]⟩, .string ⟨#[]⟩, .string ⟨#[]⟩, .string ⟨#[]⟩, .slice none 0 0, .slice none 0 0] 35)).setRow w20.heap.size cs20.toArray) = X20 at *
         generalize w20.heap.size = g21 at *
         have HZP : Hid (R2 = none → 0 < zs.length) := fun h => by
          cases zs with
          | nil => rw [← HR2.out] at h; cases h
          | cons i p => simp
         have C21 : Hid (Calls Tryz.prog 42 #[vTm cs15, .slice (some ⟨gz, 0, none⟩) LP LP] X20 (RetU X20 (R2.bind fun t => atP t zs))) := atU R2 cs15 zs _ X20 HO15.out HPZ.out (by have := HZL.out; omega) HZP.out
         go_wp2_with (first | ((with_reducible refine loadTb (cs := cs15) (.tmp 15) ?_ ?_ ?_ N15.out ?_ ?_); rfl; rfl; rfl; exact O15.out.1))
         refine C21.out.mono ?_
         rintro e w21 ⟨cs21, rfl, ho, hb⟩
         have O23 := hI ho.o11
         have TX : Hid (TB (w21.alloc (.cells #[.int .i64 0, .string ⟨#[]⟩, .string ⟨#[]⟩, .int .i64 0, .string ⟨#[]⟩, .string ⟨#[]⟩, .string ⟨#[]⟩, .string ⟨#[]⟩, .string ⟨#[]⟩, .slice none 0 0, .slice none 0 0] 35)) w21.heap.size zT) := heap_alloc_new w21 _
         have hX : Below X20.heap.size X20 ((w21.alloc (.cells #[.int .i64 0, .string ⟨#[]⟩, .string ⟨#[]⟩, .int .i64 0, .string ⟨#[]⟩, .string ⟨#[]⟩, .string ⟨#[]⟩, .string ⟨#[]⟩, .string ⟨#[]⟩, .slice none 0 0, .slice none 0 0] 35)).setRow w21.heap.size cs21.toArray) := below_setRowO (Below.alloc hb hb.size _) hb.size _
         have hwX : Below w21.heap.size w21 ((w21.alloc (.cells #[.int .i64 0, .string ⟨#[]⟩, .string ⟨#[]⟩, .int .i64 0, .string ⟨#[]⟩, .string ⟨#[]⟩, .string ⟨#[]⟩, .string ⟨#[]⟩, .string ⟨#[]⟩, .slice none 0 0, .slice none 0 0] 35)).setRow w21.heap.size cs21.toArray) := below_setRowO (below_alT w21 _) (Nat.le_refl _) _
         replace HTA := hI (HTA.out.has hX)
         replace HTB := hI (HTB.out.has hX)
         replace HPV := hI (HPV.out.has hX)
         replace HPZ := hI (HPZ.out.has hX)
         replace N7 := hI (N7.out.keep hX)
         replace N8 := hI (N8.out.keep hX)
         replace HO11 := hI (HO11.out.below hX)
         replace N11 := hI (N11.out.keep hX)
         replace HO13 := hI (HO13.out.below hX)
         replace N13 := hI (N13.out.keep hX)
         replace HO15 := hI (HO15.out.below hX)
         replace N15 := hI (N15.out.keep hX)
         replace HO17 := hI (HO17.out.below hX)
         replace N17 := hI (N17.out.keep hX)
         replace HO19 := hI (HO19.out.below hX)
         replace N19 := hI (N19.out.keep hX)
         replace HO21 := hI (HO21.out.below hX)
         replace N21 := hI (N21.out.keep hX)
         replace HB := hI (HB.out.trans (hX.mono HB.out.size))
         have HO23 := hI (ho.below hwX)
         have N23 : Hid (TB ((w21.alloc (.cells #[.int .i64 0, .string ⟨#[]⟩, .string ⟨#[]⟩, .int .i64 0, .string ⟨#[]⟩, .string ⟨#[]⟩, .string ⟨#[]⟩, .string ⟨#[]⟩, .string ⟨#[]⟩, .slice none 0 0, .slice none 0 0] 35)).setRow w21.heap.size cs21.toArray) w21.heap.size cs21) := TX.out.set _
         clear ho hb hX hwX C21
         go_upto_region 22 with ((with_reducible refine storeTb (cs := cs21) (.tmp 23) (.tmp 132) ?_ ?_ ?_ ?_ TX.out ?_ ?_ ?_ ?_); rfl; rfl; rfl; rfl; rfl; exact O23.out.1; exact O23.out.2)
         clear TX
         generalize ((w21.alloc (.cells #[.int .i64 0, .string ⟨#[]⟩, .string ⟨#[]⟩, .int .i64 0, .string ⟨#[]⟩, .string ⟨#[]⟩, .string ⟨#[]⟩, .string ⟨#[]⟩, .string ⟨#[]⟩, .slice none 0 0, .slice none 0 0] 35)).setRow w21.heap.size cs21.toArray) = X21 at *
         generalize w21.heap.size = g23 at *
         have hn3 : (R3.isSome == R3.isSome) = true := beq_self_eq_true _
         cases r2 with
         | false =>
          go_wp2_with fail
          go_ret
          exact ⟨rfl, HB.out⟩
         | true =>
          obtain ⟨y, hy⟩ : ∃ y, R2 = some y := Option.isSome_iff_exists.1 HQ2.out
          obtain ⟨hy1, hy2⟩ := putO_some (HR2.out.trans hy)
          have hy3 : (R2.bind fun t => atP t zs) = some tb := by
           rw [hy, hy2]
           exact atP_putP tb zs ta hy1
          have HO23' := HO23.out
          rw [hy3] at HO23' ⊢
          have C22 : Hid (Calls Tryz.prog 17 #[vTm cs21, vTm csb] X21 (RetB X21 true)) := eqU (some tb) X21 _ _ (fun t h => by have := HNB.out; injection h with h; subst h; omega) HO23' HTB.out
          have N22 := HB
          clear HO23' hy hy1 hy2 hy3
          go_wp2_with (first | ((with_reducible refine loadTb (cs := cs21) (.tmp 23) ?_ ?_ ?_ N23.out ?_ ?_); rfl; rfl; rfl; exact O23.out.1) | ((with_reducible refine loadTb (cs := csb) (.tmp 8) ?_ ?_ ?_ N8.out ?_ ?_); rfl; rfl; rfl; exact OB.out.1) | ((with_reducible refine loadTg (cs := cs21) (.tmp 23) ?_ ?_ ?_ N23.out ?_ ?_); rfl; rfl; rfl; exact O23.out.1) | ((with_reducible refine loadTg (cs := csb) (.tmp 8) ?_ ?_ ?_ N8.out ?_ ?_); rfl; rfl; rfl; exact OB.out.1))
          refine C22.out.mono ?_
          rintro e X22 ⟨rfl, hb⟩
          replace HB := hI (HB.out.trans (hb.mono HB.out.size))
          clear hb C22
          go_wp2_with fail
          go_ret
          exact ⟨rfl, HB.out⟩
theorem termPaths_walk (ra : Rw) (a0 a1 a2 a3 : Value) (rb : Rw) (b0 b1 b2 b3 : Value) (pl : List Int) (pv : Value) (w : World) (hra : RawAt w (Has w) ra [a0, a1, a2, a3]) (hrb : RawAt w (Has w) rb [b0, b1, b2, b3]) (hpv : IntV w pl pv) (ht : Tab w) :
 Calls Tryz.prog 8 #[.agg #[a0, a1, a2, a3], .agg #[b0, b1, b2, b3], pv] w (RetB w true) :=
 termPathsW ra rb a0 b0 a1 b1 a2 b2 a3 b3 pl pv w hra hrb hpv ht
end Go.Proofs.YtinjhnnpbejccaaGreatDoor
