import Derived.Test.YtinjhnnpbejccaaGreatDoorAl
import Derived.Test.YtinjhnnpbejccaaGreatDoorG12
import Derived.Deep.RegionWith
import Derived.Deep.DeepCutAuto
import Derived.StillTailTactics
namespace Go.Proofs.YtinjhnnpbejccaaGreatDoor
open Go Go.RowKit
set_option linter.unusedVariables false
set_option maxHeartbeats 32000000
set_option maxRecDepth 100000
theorem ptr_ne {w : World} {b k b' k' : Nat} (h : Plain w b) (h' : Plain w b') (hne : ¬ (b = b' ∧ k = k')) :
 (binOp .eql 147 (.pointer (some ⟨b, k, none⟩)) (.pointer (some ⟨b', k', none⟩))).run Tryz.prog w = .ok (.bool false) w := by
 obtain ⟨_, _, h1⟩ := h
 obtain ⟨_, _, h2⟩ := h'
 have e : (Tryz.prog.info? 33).map (fun i => decide (i.size ≠ 0)) = some true := by kernel_rfl
 obtain ⟨j, hj, hs⟩ : ∃ j, Tryz.prog.info? 33 = some j ∧ j.size ≠ 0 := by
  generalize Tryz.prog.info? 33 = i at e
  cases i with
  | none => cases e
  | some j => exact ⟨j, rfl, by simpa using e⟩
 clear e
 exact run_eql_ptr_other w Tryz.underlying147 hj hs (fun e => by
  injection e with e1 e2
  exact hne ⟨e1, e2⟩) h1 h2
def RetC (w : World) (g : Nat) (x : Bool) (k m : Nat) (r : Int) (e : Ending) (w' : World) : Prop := e = .returned (.int .i64 r) ∧ Run w w' g x k (k + m)
def OrdAt (w : World) (S : Nat → Prop) (x : Bool) (d : Nat) (y y' : Ob) (b o b' o' : Nat) (r : Int) : Prop :=
 (∃ p, At w S y b o p) ∧ (∃ p, At w S y' b' o' p) ∧ y.bd d ∧ y'.bd d ∧ ordX x y y' = r

theorem orderO (d : Nat) (hd : d ≤ 1000) : ∀ (N : Nat) (a a' : Ob) (b o b' o' : Nat) (p p' : Value) (w : World) (S : Nat → Prop) (g : Nat) (x : Bool) (k : Nat), a.nodes ≤ N → a.bd d → a'.bd d → At w S a b o p → At w S a' b' o' p' → In S w → ¬ S g → CmpAt w g x k → k + a.nodes ≤ 3000 →
 Calls Tryz.prog 117 #[.pointer (some ⟨g, 0, none⟩), .pointer (some ⟨b, o, none⟩), .pointer (some ⟨b', o', none⟩)] w (RetC w g x k a.nodes (ordX x a a')) := by
 intro N
 induction N with
 | zero => intro a a' b o b' o' p p' w S g x k hN; have := a.nodes_pos; omega
 | succ N IH =>
  intro a a' b o b' o' p p' w S g x k hN ha ha' hA hA' hS hg hc hk
  have pos := a.nodes_pos
  have IH' := qh9 IH
  have HS := qh9 hS
  have HG := qh9 hg
  clear IH hS hg
  obtain ⟨r, hr⟩ : ∃ r, ordX x a a' = r := ⟨_, rfl⟩
  obtain ⟨m, hm⟩ : ∃ m, a.nodes = m := ⟨_, rfl⟩
  rw [hr]
  rw [hm] at hN hk pos ⊢
  have h0 : Hid (OrdAt w S x d a a' b o b' o' r) := ⟨⟨p, hA⟩, ⟨p', hA'⟩, ha, ha', hr⟩
  have r0 : Hid (Run w w g x k k) := Run.start hc
  have hm' : a.nodes ≤ m := by omega
  clear hA hA' ha ha' hr hm hc
  go_enter Tryz.func117, Tryz.ntmps117
  go_wp2_with fail
  go_loopg [1, 2] m (fun n u v wr => ∃ (y y' : Ob) (b o b' o' hi : Nat), u = .pointer (some ⟨b, o, none⟩) ∧ v = .pointer (some ⟨b', o', none⟩) ∧ y.nodes ≤ n ∧ n ≤ m ∧ hi + y.nodes ≤ k + m ∧ Hid (OrdAt w S x d y y' b o b' o' r) ∧ Hid (Run w wr g x k hi))
  case atStart => exact ⟨a, a', b, o, b', o', k, rfl, rfl, hm', Nat.le_refl _, by omega, h0, r0⟩
  case round =>
   clear h0 r0
   obtain ⟨y, y', b, o, b', o', hi, rfl, rfl, hyn, hnm, hhi, hE, hR⟩ := hrel
   obtain ⟨wo, rfl⟩ : ∃ wo : World, wo = wr := ⟨_, rfl⟩
   obtain ⟨⟨p, hA⟩, ⟨p', hA'⟩, hy, hy', hr⟩ := hE.out
   clear hE
   have posy := y.nodes_pos
   obtain ⟨_, k1, hck, _, _⟩ := hR.out
   have C1 := qh9 (owpP d hd y y' b o b' o' p p' wo S hy hy' (hA.run HS.out HG.out hR.out) (hA'.run HS.out HG.out hR.out) g x hck.c0)
   have L6 : Hid (∀ wd hi, Run w wd g x k hi → wd.cell? ⟨b, o + 6, none⟩ = some p ∧ wd.cell? ⟨b', o' + 6, none⟩ = some p') := fun wd hi hr => ⟨(hA.run HS.out HG.out hr).last, (hA'.run HS.out HG.out hr).last⟩
   clear hck
   by_cases h0 : owp x y y' = 0
   · rcases owp_eq h0 with ⟨heq, hf⟩ | ⟨hcy, hcy'⟩
     · obtain rfl := hA.2.2.flat hf
       obtain rfl := hA'.2.2.flat (by rw [← heq]; exact hf)
       have hr0 : Hid (r = 0) := by show r = 0; rw [← hr]; exact (ordX_zero x y y').2 heq
       have hn : (owp x y y' != 0) = false := by rw [h0]; rfl
       have hn2 : ordI (0 : Int) 0 = 0 := rfl
       have hfin : k + m ≥ hi := by omega
       clear hA hA' hr heq hf h0 hy hy'
       go_wp2_with fail
       refine C1.out.mono ?_
       rintro e w1 ⟨rfl, hb1⟩
       have R1 := qh9 (hR.out.below hb1)
       obtain ⟨l6, m6⟩ := L6.out w1 hi R1.out
       clear hb1 hR
       go_wp2_with fail
       go_quiet ((go_at_call 144; exact quiet_same (cmpAny _ _ _)))
       have R2 := qh9 (R1.out.drewN nq)
       change (w1.drewN nq).cell? _ = _ at l6 m6
       generalize w1.drewN nq = w2 at l6 m6 R2 ⊢
       clear R1
       go_wp2_with fail
       go_still_tail 9, (by kernel_rfl)
       change wpList _ _ _ _ _ w2.drew
       have R3 := qh9 R2.out.drew
       clear l6 m6 R2
       generalize w2.drew = w3 at R3 ⊢
       go_wp2_with fail
       refine (settled0 g w3).mono ?_
       intro e w4 hq
       obtain ⟨rfl, hb⟩ := hq.below
       have R4 := qh9 (R3.out.below hb)
       clear hq hb R3
       go_wp2
       go_ret
       exact ⟨ret_int hr0.out.symm, R4.out.more hfin⟩
     · cases y with
       | cons c e =>
        cases y' with
        | cons c' e' =>
         obtain ⟨bb, oo, cc, pc, pe, rfl, hcc, hC, hE⟩ := hA.2.2.parts
         obtain ⟨bb', oo', cc', pc', pe', rfl, hcc', hC', hE'⟩ := hA'.2.2.parts
         have hnn : (Ob.cons c e).nodes = 1 + c.nodes + e.nodes := rfl
         have posc := c.nodes_pos
         have pose := e.nodes_pos
         rw [ordX_cons] at hr
         have hn : (owp x (Ob.cons c e) (Ob.cons c' e') != 0) = false := by rw [h0]; rfl
         have hn2 : ordI (2 : Int) 2 = 0 := rfl
         have hfin : k + m ≥ hi := by omega
         have C3 : Hid (∀ wd, Run w wd g x k (hi + 1) → Calls Tryz.prog 117 #[.pointer (some ⟨g, 0, none⟩), .pointer (some ⟨bb, oo, none⟩), .pointer (some ⟨bb', oo', none⟩)] wd (fun e w' => e = .returned (.int .i64 (ordX x c c')) ∧ Run w w' g x k (hi + 1 + c.nodes))) := by
          intro wd hrun
          obtain ⟨hgr, k', hck, h1, h2⟩ := hrun
          have hrun : Run w wd g x k (hi + 1) := ⟨hgr, k', hck, h1, h2⟩
          refine (IH'.out c c' bb oo bb' oo' pc pc' wd S g x k' (by omega) hy.1 hy'.1 (hC.run HS.out HG.out hrun) (hC'.run HS.out HG.out hrun) (HS.out.later hgr.size) HG.out hck (by omega)).mono ?_
          rintro e w' ⟨he, hrun'⟩
          exact ⟨he, (Run.trans hgr h1 hrun').more (by omega)⟩
         have hlim : hi + 1 ≤ 3000 := by omega
         have hce : hi + 1 + c.nodes + e.nodes ≤ k + m := by omega
         have heg : e.nodes < gk := by omega
         have hem : e.nodes ≤ m := by omega
         have HE : Hid ((∃ p, At w S e bb (oo + 7) p) ∧ (∃ p, At w S e' bb' (oo' + 7) p) ∧ e.bd d ∧ e'.bd d) := ⟨⟨_, hE⟩, ⟨_, hE'⟩, hy.2, hy'.2⟩
         by_cases hsame : bb = bb' ∧ oo = oo'
         · obtain ⟨rfl, rfl⟩ := hsame
           have e1 := hC.inj hC'
           have e2 := hE.inj hE'
           have hr0 : Hid (r = 0) := by
            show r = 0
            rw [← hr, (ordX_zero x c c').2 e1, (ordX_zero x e e').2 e2]; rfl
           clear hA hA' hr h0 hy hy' hC hC' hE hE' hnn e1 e2 hcy hcy' C3 HE
           go_wp2_with fail
           refine C1.out.mono ?_
           rintro e w1 ⟨rfl, hb1⟩
           have R1 := qh9 (hR.out.below hb1)
           obtain ⟨l6, m6⟩ := L6.out w1 hi R1.out
           clear hb1 hR
           go_wp2_with fail
           go_quiet ((go_at_call 144; exact quiet_same (cmpAny _ _ _)))
           have R2 := qh9 (R1.out.drewN nq)
           change (w1.drewN nq).cell? _ = _ at l6 m6
           generalize w1.drewN nq = w2 at l6 m6 R2 ⊢
           clear R1
           go_wp2_with fail
           go_still_tail 9, (by kernel_rfl)
           change wpList _ _ _ _ _ w2.drew
           have R3 := qh9 R2.out.drew
           clear l6 m6 R2
           generalize w2.drew = w3 at R3 ⊢
           go_wp2_with fail
           refine (settledSame g bb oo cc cc' w3).mono ?_
           intro e w4 hq
           obtain ⟨rfl, hb⟩ := hq.below
           have R4 := qh9 (R3.out.below hb)
           clear hq hb R3
           go_wp2
           go_ret
           exact ⟨ret_int hr0.out.symm, R4.out.more hfin⟩
         · have C2 : Hid (∀ wd, Run w wd g x k hi → Calls Tryz.prog 145 #[.pointer (some ⟨g, 0, none⟩), .slice (some ⟨bb, oo, none⟩) 2 cc, .slice (some ⟨bb', oo', none⟩) 2 cc'] wd (fun e w' => e = .returned (.bool false) ∧ Run w w' g x k (hi + 1))) := by
            intro wd hrun
            exact settledOther g bb oo cc bb' oo' cc' w wd x k hi (fun n => ptr_ne (hC.run HS.out HG.out (hrun.drewN n)).1.2 (hC'.run HS.out HG.out (hrun.drewN n)).1.2 hsame) hrun hlim
           have HR := qh9 hr
           have hfin2 : hi + 1 + c.nodes ≤ k + m := by omega
           clear hA hA' hr h0 hy hy' hC hC' hE hE' hnn hcy hcy' hsame
           go_wp2_with fail
           refine C1.out.mono ?_
           rintro e' w1 ⟨rfl, hb1⟩
           have R1 := qh9 (hR.out.below hb1)
           obtain ⟨l6, m6⟩ := L6.out w1 hi R1.out
           clear hb1 hR
           go_wp2_with fail
           go_quiet ((go_at_call 144; exact quiet_same (cmpAny _ _ _)))
           have R2 := qh9 (R1.out.drewN nq)
           change (w1.drewN nq).cell? _ = _ at l6 m6
           generalize w1.drewN nq = w2 at l6 m6 R2 ⊢
           clear R1
           go_wp2_with fail
           go_still_tail 9, (by kernel_rfl)
           change wpList _ _ _ _ _ w2.drew
           have R3 := qh9 R2.out.drew
           clear l6 m6 R2
           generalize w2.drew = w3 at R3 ⊢
           go_wp2_with fail
           refine (C2.out w3 R3.out).mono ?_
           rintro e' w4 ⟨rfl, hr4⟩
           obtain ⟨l6, m6⟩ := L6.out w4 _ hr4
           have R4 : Hid (Run w w4 g x k (hi + 1 + 0 * c.nodes)) := hr4.more (by omega)
           clear hr4 R3 C2 C1
           go_wp2_with fail
           clear l6 m6
           go_loopw [50] (fun v wr => ∃ i : Nat, i ≤ 1 ∧ v = .int .i64 i ∧ Hid (Run w wr g x k (hi + 1 + i * c.nodes)) ∧ Hid (0 < i → ordX x c c' = 0)) (fun v _ => 1 - (intOf v).toNat)
           case atStart => exact ⟨0, by omega, rfl, R4, fun h => by omega⟩
           case round =>
            clear R4
            obtain ⟨i, hi1, rfl, R5, HO⟩ := hrel
            obtain ⟨w5, rfl⟩ : ∃ w5 : World, w5 = wr := ⟨_, rfl⟩
            obtain ⟨l6, m6⟩ := L6.out w5 _ R5.out
            by_cases hi0 : i = 0
            · subst hi0
              have R6 : Hid (Run w w5 g x k (hi + 1)) := R5.out.more (by omega)
              clear R5 hi1 HO
              go_wp2_with fail
              go_still_tail 13, (by kernel_rfl)
              change wpList _ _ _ _ _ w5.drew
              have R7 := qh9 R6.out.drew
              clear l6 m6 R6
              generalize w5.drew = w6 at R7 ⊢
              go_wp2_with fail
              refine (C3.out w6 R7.out).mono ?_
              rintro e' w7 ⟨rfl, hr7⟩
              have R8 := qh9 hr7
              clear hr7 R7
              by_cases hz : ordX x c c' = 0
              · have hzn : (ordX x c c' != 0) = false := by rw [hz]; rfl
                have HZ := qh9 hz
                clear hz
                go_wp2
                go_roundw
                case rel => exact ⟨1, Nat.le_refl _, rfl, R8.out.more (by omega), fun _ => HZ.out⟩
                case measure => simp [intOf]
              · have hzn : (ordX x c c' != 0) = true := by rw [bne_iff_ne]; exact hz
                have HZ : Hid (r = ordX x c c') := by show _ = _; rw [← HR.out]; unfold next; rw [if_neg hz]
                clear hz
                go_wp2
                go_ret
                exact ⟨ret_int HZ.out.symm, R8.out.more hfin2⟩
            · have hi2 : i = 1 := by omega
              subst hi2
              have R6 : Hid (Run w w5 g x k (hi + 1 + c.nodes)) := R5.out.more (by omega)
              have HZ : Hid (ordX x e e' = r) := by
               show _ = _
               rw [← HR.out]
               unfold next
               rw [if_pos (HO.out (by omega))]
              clear R5 hi1 HO hi0
              go_wp2_with fail
              go_quiet (fail)
              have R7 := qh9 (R6.out.drewN nq)
              clear l6 m6 R6
              generalize w5.drewN nq = w6 at R7 ⊢
              go_wp2
              go_roundg e.nodes
              case measure => exact heg
              case rel => exact ⟨e, e', bb, oo + 7, bb', oo' + 7, hi + 1 + c.nodes, rfl, rfl, Nat.le_refl _, hem, hce, ⟨HE.out.1, HE.out.2.1, HE.out.2.2.1, HE.out.2.2.2, HZ.out⟩, R7⟩
        | _ => simp [Ob.isCons] at hcy'
       | _ => simp [Ob.isCons] at hcy
   · have hr1 := qh9 ((owp_ne h0).symm.trans hr)
     have hn : (owp x y y' != 0) = true := by rw [bne_iff_ne]; exact h0
     have hfin : k + m ≥ hi := by omega
     clear hA hA' hr h0 hy hy' L6
     go_wp2_with fail
     refine C1.out.mono ?_
     rintro e w1 ⟨rfl, hb1⟩
     have R1 := qh9 (hR.out.below hb1)
     clear hb1 hR
     go_wp2
     go_ret
     exact ⟨ret_int hr1.out, R1.out.more hfin⟩
theorem three (a a' : Ob) (p p' : Value) (w : World) (S : Nat → Prop) (hS : In S w) (ha : Pair w S a p) (ha' : Pair w S a' p') (x : Bool) :
 ∃ W, W = ((w.alloc (.cells (cellsO a p).toArray 33)).alloc (.cells (cellsO a' p').toArray 33)).alloc (.cells #[.bool x, .int .i64 0, .map none] 145) ∧
  Below w.heap.size w W ∧ W.heap.size = w.heap.size + 3 ∧ At W (fun b => S b ∨ b = w.heap.size ∨ b = w.heap.size + 1) a w.heap.size 0 p ∧ At W (fun b => S b ∨ b = w.heap.size ∨ b = w.heap.size + 1) a' (w.heap.size + 1) 0 p' ∧ CmpAt W (w.heap.size + 2) x 0 := by
 refine ⟨_, rfl, ?_⟩
 have hb : Below w.heap.size w (((w.alloc (.cells (cellsO a p).toArray 33)).alloc (.cells (cellsO a' p').toArray 33)).alloc (.cells #[.bool x, .int .i64 0, .map none] 145)) :=
  Below.alloc (Below.alloc (Below.alloc (Below.refl _ _) (Nat.le_refl _) _) (by simp) _) (by simp; omega) _
 have h0 : (((w.alloc (.cells (cellsO a p).toArray 33)).alloc (.cells (cellsO a' p').toArray 33)).alloc (.cells #[.bool x, .int .i64 0, .map none] 145)).heap[w.heap.size]? = some (.cells (cellsO a p).toArray 33 (0, 0)) := by
  rw [Below.heap_alloc _ _ _ (by simp; omega)]; exact heap_alloc2_old w _ _
 have h1 : (((w.alloc (.cells (cellsO a p).toArray 33)).alloc (.cells (cellsO a' p').toArray 33)).alloc (.cells #[.bool x, .int .i64 0, .map none] 145)).heap[w.heap.size + 1]? = some (.cells (cellsO a' p').toArray 33 (0, 0)) := by
  rw [Below.heap_alloc _ _ _ (by simp)]; exact heap_alloc2_new w _ _
 refine ⟨hb, by simp, ⟨⟨.inr (.inl rfl), _, _, h0⟩, fun j u hj => ?_, (ha.below hS hb).more fun _ h => .inl h⟩, ⟨⟨.inr (.inr rfl), _, _, h1⟩, fun j u hj => ?_, (ha'.below hS hb).more fun _ h => .inl h⟩, heap_new_at (by simp)⟩
 · rw [Nat.zero_add, cell_of_row _ _ _ _ _ _ h0, ← hj]; simp
 · rw [Nat.zero_add, cell_of_row _ _ _ _ _ _ h1, ← hj]; simp
theorem orderTop (d : Nat) (hd : d ≤ 1000) (a a' : Ob) (p p' : Value) (w : World) (S : Nat → Prop) (hS : In S w) (ha : Pair w S a p) (ha' : Pair w S a' p') (hb : a.bd d) (hb' : a'.bd d) (hn : a.nodes ≤ 3000) (x : Bool) :
 Calls Tryz.prog 117 #[.pointer (some ⟨w.heap.size + 1 + 1, 0, none⟩), .pointer (some ⟨w.heap.size, 0, none⟩), .pointer (some ⟨w.heap.size + 1, 0, none⟩)] (((w.alloc (.cells (cellsO a p).toArray 33)).alloc (.cells (cellsO a' p').toArray 33)).alloc (.cells #[.bool x, .int .i64 0, .map none] 145))
  (fun e w' => e = .returned (.int .i64 (ordX x a a')) ∧ Below w.heap.size w w') := by
 obtain ⟨W, e, h1, h2, h3, h4, h5⟩ := three a a' p p' w S hS ha ha' x
 rw [← e]
 refine (orderO d hd a.nodes a a' w.heap.size 0 (w.heap.size + 1) 0 p p' W _ (w.heap.size + 2) x 0 (Nat.le_refl _) hb hb' h3 h4 (fun b hb => ?_) (fun h => ?_) h5 (by omega)).mono ?_
 · rcases hb with hb | rfl | rfl
   · have := hS b hb; omega
   · omega
   · omega
 · rcases h with h | h | h
   · have := hS _ h; omega
   · omega
   · omega
 · rintro e w' ⟨he, hr⟩
   exact ⟨he, hr.1.os.trans h1.os, hr.1.tape.trans h1.tape, hr.1.output.trans h1.output, Nat.le_trans h1.size hr.1.size, fun b hlt => (hr.1.block b (by omega) (fun e => by injection e with e; omega)).trans (h1.block b hlt)⟩
theorem equalP (d : Nat) (hd : d ≤ 1000) (a a' : Ob) (p p' : Value) (w : World) (S : Nat → Prop) (hS : In S w) (ha : Pair w S a p) (ha' : Pair w S a' p') (hb : a.bd d) (hb' : a'.bd d) (hn : a.nodes ≤ 3000) :
 Calls Tryz.prog 91 #[vO a p, vO a' p'] w (RetB w (decide (a = a'))) := by
 have call := qh9 (orderTop d hd a a' p p' w S hS ha ha' hb hb' hn true)
 obtain ⟨x0, x1, x2, x3, x4, x5, e⟩ := cells7 a p
 obtain ⟨y0, y1, y2, y3, y4, y5, e'⟩ := cells7 a' p'
 rw [e, e'] at call
 unfold vO
 rw [e, e']
 have hr : Hid ((eqI a a' == 0) = decide (a = a')) := by
  show _ = _
  unfold eqI
  by_cases h : a = a' <;> simp [h]
 have hx : Hid (ordX true a a' = eqI a a') := rfl
 rw [hx.out] at call
 rw [← hr.out]
 generalize eqI a a' = q at call ⊢
 clear hr hx e e' ha ha' hb hb' hS hn
 go_enter Tryz.func91, Tryz.ntmps91
 go_wp2_with fail
 refine call.out.mono ?_
 rintro e w' ⟨rfl, hb⟩
 have HB := qh9 hb
 clear hb call
 go_wp2
 go_ret
 exact ⟨rfl, HB.out⟩
def vQ (q : Rat) : Value := .agg #[.int .i64 1, .string (nt q), .string (dt q), .string ⟨#[]⟩, .string ⟨#[]⟩, .string ⟨#[]⟩, .slice none 0 0]
def RetN (w : World) (q : Rat) (e : Ending) (w' : World) : Prop := e = .returned (vQ q) ∧ Below w.heap.size w w'
theorem RetO.num {w w' : World} {S : Nat → Prop} {q : Rat} {e : Ending} (h : RetO w S (.num q) e w') : RetN w q e w' := by
 obtain ⟨p, rfl, hp, hb⟩ := h
 have e : p = .slice none 0 0 := hp
 subst e
 exact ⟨rfl, hb⟩
theorem ratRN (s t : ByteArray) (w : World) (hs : s.size ≤ 300000000) (ht : t.size ≤ 300000000) : Calls Tryz.prog 60 #[.string s, .string t] w (RetN w (quo (LA s) (LA t))) :=
 (ratO s t w (fun _ => False) (fun _ h => h.elim) hs ht).mono fun _ _ h => h.num
theorem i64_small {n : Int} (h : -1000000 ≤ n ∧ n ≤ 1000000) : Hid (I64 n) := by show I64 n; unfold I64; omega
theorem setRow7 {w : World} {g : Nat} {old : Array Value} {t : TypeId} (h : w.heap[g]? = some (.cells old t (0, 0))) (hs : old.size = 7) (a0 a1 a2 a3 a4 a5 a6 : Value) :
 ((((((w.setCell ⟨g, 0, none⟩ a0).setCell ⟨g, 1, none⟩ a1).setCell ⟨g, 2, none⟩ a2).setCell ⟨g, 3, none⟩ a3).setCell ⟨g, 4, none⟩ a4).setCell ⟨g, 5, none⟩ a5).setCell ⟨g, 6, none⟩ a6 = w.setRow g #[a0, a1, a2, a3, a4, a5, a6] := by
 obtain ⟨old⟩ := old
 match old, hs with
 | [o0, o1, o2, o3, o4, o5, o6], _ =>
  rw [setCell_eq_setRow _ g 0 _ t _ a0 h]
  have h1 := setRow_heap w g _ (#[o0, o1, o2, o3, o4, o5, o6].setIfInBounds 0 a0) _ _ h
  rw [setCell_eq_setRow _ g 1 _ t _ a1 h1, setRow_setRow]
  have h2 := setRow_heap w g _ ((#[o0, o1, o2, o3, o4, o5, o6].setIfInBounds 0 a0).setIfInBounds 1 a1) _ _ h
  rw [setCell_eq_setRow _ g 2 _ t _ a2 h2, setRow_setRow]
  have h3 := setRow_heap w g _ (((#[o0, o1, o2, o3, o4, o5, o6].setIfInBounds 0 a0).setIfInBounds 1 a1).setIfInBounds 2 a2) _ _ h
  rw [setCell_eq_setRow _ g 3 _ t _ a3 h3, setRow_setRow]
  have h4 := setRow_heap w g _ ((((#[o0, o1, o2, o3, o4, o5, o6].setIfInBounds 0 a0).setIfInBounds 1 a1).setIfInBounds 2 a2).setIfInBounds 3 a3) _ _ h
  rw [setCell_eq_setRow _ g 4 _ t _ a4 h4, setRow_setRow]
  have h5 := setRow_heap w g _ (((((#[o0, o1, o2, o3, o4, o5, o6].setIfInBounds 0 a0).setIfInBounds 1 a1).setIfInBounds 2 a2).setIfInBounds 3 a3).setIfInBounds 4 a4) _ _ h
  rw [setCell_eq_setRow _ g 5 _ t _ a5 h5, setRow_setRow]
  have h6 := setRow_heap w g _ ((((((#[o0, o1, o2, o3, o4, o5, o6].setIfInBounds 0 a0).setIfInBounds 1 a1).setIfInBounds 2 a2).setIfInBounds 3 a3).setIfInBounds 4 a4).setIfInBounds 5 a5) _ _ h
  rw [setCell_eq_setRow _ g 6 _ t _ a6 h6, setRow_setRow]
  rfl
theorem row7 {w : World} {g : Nat} {t : TypeId} {a0 a1 a2 a3 a4 a5 a6 : Value} (h : w.heap[g]? = some (.cells #[a0, a1, a2, a3, a4, a5, a6] t (0, 0))) :
 (w.cell? ⟨g, 0, none⟩ = some a0 ∧ w.cell? ⟨g, 1, none⟩ = some a1 ∧ w.cell? ⟨g, 2, none⟩ = some a2 ∧ w.cell? ⟨g, 3, none⟩ = some a3 ∧ w.cell? ⟨g, 4, none⟩ = some a4 ∧ w.cell? ⟨g, 5, none⟩ = some a5 ∧ w.cell? ⟨g, 6, none⟩ = some a6) ∧
   (∀ j, w.frozen? ⟨g, j, none⟩ = false) := by
 refine ⟨⟨?_, ?_, ?_, ?_, ?_, ?_, ?_⟩, fun j => by simp [World.frozen?, h]⟩
 all_goals (rw [cell_of_row _ _ _ _ _ _ h]; rfl)
abbrev row (a0 a1 a2 a3 a4 a5 a6 : Value) : Array Value := #[a0, a1, a2, a3, a4, a5, a6]


theorem isLetterP (c : Int) (h1 : 97 ≤ c) (h2 : c ≤ 122) (w : World) : Calls Tryz.prog 186 #[.int .u8 c] w fun e w' => e = .returned (.bool true) ∧ w = w' := by
 go_enter Tryz.func186, Tryz.ntmps186
 go_wp2
 go_ret
 exact ⟨rfl, rfl⟩
theorem isNameP (s : ByteArray) (h1 : 1 ≤ s.size) (h2 : s.size ≤ 40) (w : World) : Calls Tryz.prog 172 #[.string s] w fun e w' => e = .returned (.bool true) ∧ w = w' := by
 have h3 : (1 : Int) ≤ (s.size : Int) := by omega
 have h4 : (s.size : Int) ≤ 40 := by omega
 go_enter Tryz.func172, Tryz.ntmps172
 go_wp2
 go_ret
 exact ⟨rfl, rfl⟩
theorem isPackageP (w : World) : Calls Tryz.prog 171 #[.string (BA lispB)] w fun e w' => e = .returned (.bool true) ∧ w = w' := by
 show Calls _ _ #[.string ⟨#[108, 105, 115, 112]⟩] _ _
 go_enter Tryz.func171, Tryz.ntmps171
 go_wp2_with fail
 refine (isNameP ⟨#[108, 105, 115, 112]⟩ (by decide) (by decide) _).mono ?_
 rintro e w' ⟨rfl, rfl⟩
 go_wp2_with fail
 refine (isLetterP 108 (by decide) (by decide) _).mono ?_
 rintro e w' ⟨rfl, rfl⟩
 go_wp2_with fail
 go_loop [15] (fun v => ∃ i : Nat, i ≤ 4 ∧ v = .int .i64 i) (fun v => 4 - (intOf v).toNat)
 case atStart => exact ⟨0, by omega, rfl⟩
 case round =>
  obtain ⟨i, hi, rfl⟩ := hrel
  have h5 : i = 0 ∨ i = 1 ∨ i = 2 ∨ i = 3 ∨ i = 4 := by omega
  rcases h5 with rfl | rfl | rfl | rfl | rfl
  · go_wp2_with fail
    refine (isLetterP 108 (by decide) (by decide) _).mono ?_
    rintro e w' ⟨rfl, rfl⟩
    go_wp2
    go_round
    case rel => exact ⟨1, by omega, rfl⟩
    case measure => simp [intOf]
  · go_wp2_with fail
    refine (isLetterP 105 (by decide) (by decide) _).mono ?_
    rintro e w' ⟨rfl, rfl⟩
    go_wp2
    go_round
    case rel => exact ⟨2, by omega, rfl⟩
    case measure => simp [intOf]
  · go_wp2_with fail
    refine (isLetterP 115 (by decide) (by decide) _).mono ?_
    rintro e w' ⟨rfl, rfl⟩
    go_wp2
    go_round
    case rel => exact ⟨3, by omega, rfl⟩
    case measure => simp [intOf]
  · go_wp2_with fail
    refine (isLetterP 112 (by decide) (by decide) _).mono ?_
    rintro e w' ⟨rfl, rfl⟩
    go_wp2
    go_round
    case rel => exact ⟨4, by omega, rfl⟩
    case measure => simp [intOf]
  · go_wp2
    go_ret
    exact ⟨rfl, rfl⟩
theorem isPackageU (w : World) : Calls Tryz.prog 171 #[.string (BA userB)] w fun e w' => e = .returned (.bool true) ∧ w = w' := by
 show Calls _ _ #[.string ⟨#[117, 115, 101, 114]⟩] _ _
 go_enter Tryz.func171, Tryz.ntmps171
 go_wp2_with fail
 refine (isNameP ⟨#[117, 115, 101, 114]⟩ (by decide) (by decide) _).mono ?_
 rintro e w' ⟨rfl, rfl⟩
 go_wp2_with fail
 refine (isLetterP 117 (by decide) (by decide) _).mono ?_
 rintro e w' ⟨rfl, rfl⟩
 go_wp2_with fail
 go_loop [15] (fun v => ∃ i : Nat, i ≤ 4 ∧ v = .int .i64 i) (fun v => 4 - (intOf v).toNat)
 case atStart => exact ⟨0, by omega, rfl⟩
 case round =>
  obtain ⟨i, hi, rfl⟩ := hrel
  have h5 : i = 0 ∨ i = 1 ∨ i = 2 ∨ i = 3 ∨ i = 4 := by omega
  rcases h5 with rfl | rfl | rfl | rfl | rfl
  · go_wp2_with fail
    refine (isLetterP 117 (by decide) (by decide) _).mono ?_
    rintro e w' ⟨rfl, rfl⟩
    go_wp2
    go_round
    case rel => exact ⟨1, by omega, rfl⟩
    case measure => simp [intOf]
  · go_wp2_with fail
    refine (isLetterP 115 (by decide) (by decide) _).mono ?_
    rintro e w' ⟨rfl, rfl⟩
    go_wp2
    go_round
    case rel => exact ⟨2, by omega, rfl⟩
    case measure => simp [intOf]
  · go_wp2_with fail
    refine (isLetterP 101 (by decide) (by decide) _).mono ?_
    rintro e w' ⟨rfl, rfl⟩
    go_wp2
    go_round
    case rel => exact ⟨3, by omega, rfl⟩
    case measure => simp [intOf]
  · go_wp2_with fail
    refine (isLetterP 114 (by decide) (by decide) _).mono ?_
    rintro e w' ⟨rfl, rfl⟩
    go_wp2
    go_round
    case rel => exact ⟨4, by omega, rfl⟩
    case measure => simp [intOf]
  · go_wp2
    go_ret
    exact ⟨rfl, rfl⟩
theorem isShortP (x : Int) (h : x.natAbs < 10 ^ 90) (w : World) : Calls Tryz.prog 183 #[.string (BA (text x))] w fun e w' => e = .returned (.bool true) ∧ w = w' := by
 have hl := text_length (x := x) (k := 90) h
 have hs : (BA (text x)).size ≤ 92 := by rw [BA_size]; exact hl
 have hv : valid (LA (BA (text x))) = true := by rw [LA_BA]; exact valid_text x
 have hd : ((body (LA (BA (text x)))).length : Int) ≤ 100 := by
  unfold body
  rw [hv, LA_BA]
  have := strip_length (text x)
  simp only [if_true]
  omega
 have V : Hid (∀ w, Calls Tryz.prog 195 #[.string (BA (text x))] w fun e w' => e = .returned (.bool true) ∧ w = w') := fun w => by
  have := valid_any (BA (text x)) w (by unfold maxLen; omega)
  rw [hv] at this
  exact this
 have D : Hid (∀ w, Calls Tryz.prog 196 #[.string (BA (text x))] w fun e w' => e = .returned (.int .i64 ((body (LA (BA (text x)))).length : Nat)) ∧ w = w') := fun w => digits_any _ w (by omega)
 clear h hl hv
 generalize BA (text x) = s at hs hd V D ⊢
 generalize (body (LA s)).length = n at hd D
 go_enter Tryz.func183, Tryz.ntmps183
 go_wp2_with fail
 refine (V.out _).mono ?_
 rintro e w' ⟨rfl, rfl⟩
 go_wp2_with fail
 refine (D.out _).mono ?_
 rintro e w' ⟨rfl, rfl⟩
 go_wp2
 go_ret
 exact ⟨rfl, rfl⟩
theorem isFractionP (x : Int) (h : x.natAbs < 10 ^ 90) (w : World) : Calls Tryz.prog 170 #[.string (BA (text x)), .string ⟨#[49]⟩] w fun e w' => e = .returned (.bool true) ∧ w = w' := by
 have C1 := fun w => isShortP x h w
 have C2 : ∀ w, Calls Tryz.prog 183 #[.string ⟨#[49]⟩] w fun e w' => e = .returned (.bool true) ∧ w = w' := fun w => isShortP 1 (by decide) w
 replace C1 := qh9 C1
 replace C2 := qh9 C2
 clear h
 generalize BA (text x) = s at C1 ⊢
 go_enter Tryz.func170, Tryz.ntmps170
 go_wp2_with fail
 refine (C1.out _).mono ?_
 rintro e w' ⟨rfl, rfl⟩
 go_wp2_with fail
 refine (C2.out _).mono ?_
 rintro e w' ⟨rfl, rfl⟩
 go_wp2
 go_ret
 exact ⟨rfl, rfl⟩
theorem val_zero1 : val (LA ⟨#[48]⟩) = 0 := by decide
theorem isFracQ (q : Rat) (h : Bd 90 q) (w : World) : Calls Tryz.prog 170 #[.string (nt q), .string (dt q)] w (RetB w true) := by
 by_cases hd : q.den = 1
 · have e : dt q = ⟨#[49]⟩ := by unfold dt; rw [hd]; decide
   rw [e]
   exact (isFractionP q.num h.1 w).mono fun e w' hh => ⟨hh.1, hh.2 ▸ Below.refl _ _⟩
 · have s1 := bd_nt h
   have s2 := bd_dt h
   have C1 : Hid (∀ w, Calls Tryz.prog 183 #[.string (nt q)] w fun e w' => e = .returned (.bool true) ∧ w = w') := fun w => isShortP q.num h.1 w
   have C2 : Hid (∀ w, Calls Tryz.prog 183 #[.string (dt q)] w fun e w' => e = .returned (.bool true) ∧ w = w') := fun w => isShortP (q.den : Int) (by rw [Int.natAbs_natCast]; exact h.2) w
   have C3 : Hid (∀ w, Calls Tryz.prog 184 #[.string (dt q), .string ⟨#[48]⟩] w fun e w' => e = .returned (.int .i64 1) ∧ w = w') := fun w => by
    have h3 := compare_any (dt q) ⟨#[48]⟩ w (by omega) (by decide)
    rw [val_dt, val_zero1] at h3
    have : ordI (q.den : Int) 0 = 1 := by
     have := q.den_pos
     unfold ordI
     rw [if_neg (by omega), if_pos (by omega)]
    rw [this] at h3
    exact h3
   have C4 : Hid (∀ w, Calls Tryz.prog 185 #[.string (nt q), .string (dt q)] w fun e w' => e = .returned (.string ⟨#[49]⟩) ∧ Below w.heap.size w w') := fun w => by
    have h4 := gcd_any (nt q) (dt q) w (by omega) (by omega)
    rw [← val_natAbs, ← val_natAbs, val_nt, val_dt, Int.natAbs_natCast, q.reduced.gcd_eq_one] at h4
    exact h4
   have hn : ((dt q).toList == [49]) = false := by
    rw [beq_eq_false_iff_ne]
    intro e
    apply hd
    have e2 : LA (dt q) = [49] := by rw [← e, Lib.toList_data]; rfl
    have := val_dt q
    rw [e2] at this
    have h1 : val [49] = 1 := by decide
    omega
   clear h hd s1 s2
   generalize nt q = nq at *
   generalize dt q = dq at *
   go_enter Tryz.func170, Tryz.ntmps170
   go_wp2_with fail
   refine (C1.out _).mono ?_
   rintro e w' ⟨rfl, rfl⟩
   go_wp2_with fail
   refine (C2.out _).mono ?_
   rintro e w' ⟨rfl, rfl⟩
   go_wp2_with fail
   refine (C3.out _).mono ?_
   rintro e w' ⟨rfl, rfl⟩
   go_wp2_with fail
   refine (C4.out _).mono ?_
   rintro e w' ⟨rfl, hb⟩
   have HB := qh9 hb
   clear hb
   go_wp2
   go_ret
   exact ⟨rfl, HB.out⟩
theorem eqS_self (s1 s2 s3 s4 s5 : ByteArray) : eqS s1 s2 s3 s4 s5 s1 s2 s3 s4 s5 = true := by unfold eqS; simp
theorem hasOnlyP (b k : Nat) (w : World) (x : Int) (s1 s2 s3 s4 s5 : ByteArray) (A : Option Addr) (n c : Nat)
 (l0 : w.cell? ⟨b, k, none⟩ = some (.int .i64 x)) (l1 : w.cell? ⟨b, k + 1, none⟩ = some (.string s1)) (l2 : w.cell? ⟨b, k + 2, none⟩ = some (.string s2)) (l3 : w.cell? ⟨b, k + 3, none⟩ = some (.string s3)) (l4 : w.cell? ⟨b, k + 4, none⟩ = some (.string s4)) (l5 : w.cell? ⟨b, k + 5, none⟩ = some (.string s5)) (l6 : w.cell? ⟨b, k + 6, none⟩ = some (.slice A n c)) :
 Calls Tryz.prog 169 #[.pointer (some ⟨b, k, none⟩), .agg #[.int .i64 0, .string s1, .string s2, .string s3, .string s4, .string s5, .slice A n c]] w (RetB w true) := by
 have hlt := World.block_lt_of_cell? w _ l0
 have hne : ¬ b = w.heap.size := by have : b < w.heap.size := hlt; omega
 have hb0 := Below.alloc (Below.refl w.heap.size w) (Nat.le_refl _) (.cells #[.int .i64 x, .string s1, .string s2, .string s3, .string s4, .string s5, .slice A n c] 33)
 have hg0 := heap_alloc_new w (.cells #[.int .i64 x, .string s1, .string s2, .string s3, .string s4, .string s5, .slice A n c] 33)
 go_enter Tryz.func169, Tryz.ntmps169
 go_wp2_with fail
 have k0 := (hb0.cell (p := ⟨b, k, none⟩) hlt).trans l0
 have k1 := (hb0.cell (p := ⟨b, k + 1, none⟩) hlt).trans l1
 have k2 := (hb0.cell (p := ⟨b, k + 2, none⟩) hlt).trans l2
 have k3 := (hb0.cell (p := ⟨b, k + 3, none⟩) hlt).trans l3
 have k4 := (hb0.cell (p := ⟨b, k + 4, none⟩) hlt).trans l4
 have k5 := (hb0.cell (p := ⟨b, k + 5, none⟩) hlt).trans l5
 have k6 := (hb0.cell (p := ⟨b, k + 6, none⟩) hlt).trans l6
 generalize w.alloc (.cells #[.int .i64 x, .string s1, .string s2, .string s3, .string s4, .string s5, .slice A n c] 33) = W at hb0 hg0 k0 k1 k2 k3 k4 k5 k6 ⊢
 obtain ⟨⟨g0, g1, g2, g3, g4, g5, g6⟩, _⟩ := row7 hg0
 have C : Hid (∀ m, Calls Tryz.prog 165 #[.pointer (some ⟨b, k, none⟩), .pointer (some ⟨w.heap.size, 0, none⟩)] (W.drewN m) (QuietV (W.drewN m) (.bool true))) := fun m => by
  have h := sameRaw b k w.heap.size 0 (W.drewN m) x x s1 s2 s3 s4 s5 s1 s2 s3 s4 s5 k0 k1 k2 k3 k4 k5 g0 g1 g2 g3 g4 g5
  rw [eqS_self] at h
  simpa using h
 have HB := qh9 hb0
 clear l0 l1 l2 l3 l4 l5 l6 k0 k1 k2 k3 k4 k5 g0 g1 g2 g3 g4 g5 hg0 hb0
 go_quiet ((go_at_call 165; exact Calls.quiet_of (C.out _)))
 go_wp2
 go_ret
 exact ⟨rfl, HB.out.trans (⟨rfl, rfl, rfl, Nat.le_refl _, fun _ _ => rfl⟩ : Below w.heap.size W (W.drewN nq))⟩

theorem wellP : ∀ (a : Ob) (b k : Nat) (p : Value) (w : World) (S : Nat → Prop), a.bd 90 → In S w → At w S a b k p →
 Calls Tryz.prog 154 #[.pointer (some ⟨b, k, none⟩)] w (RetB w true) := by
 intro a
 induction a with
 | num q =>
  intro b k p w S hwf hS h
  obtain ⟨x0, x1, x2, x3, x4, x5, e, l0, l1, l2, l3, l4, l5, l6⟩ := h.cells
  obtain rfl := h.2.2.flat rfl
  have hlt : b < w.heap.size := hS b h.1.1
  rw [cellsO_f] at e
  simp only [List.cons.injEq, and_true] at e
  obtain ⟨rfl, rfl, rfl, rfl, rfl, rfl⟩ := e
  have hF : Hid (∀ w, Calls Tryz.prog 170 #[.string (nt q), .string (dt q)] w (RetB w true)) := fun w => isFracQ q hwf w
  have HO : Hid (∀ wd, Below w.heap.size w wd → Calls Tryz.prog 169 #[.pointer (some ⟨b, k, none⟩), .agg #[.int .i64 0, .string (nt q), .string (dt q), .string ⟨#[]⟩, .string ⟨#[]⟩, .string ⟨#[]⟩, .slice none 0 0]] wd (RetB wd true)) := fun wd hb =>
   hasOnlyP b k wd 1 (nt q) (dt q) ⟨#[]⟩ ⟨#[]⟩ ⟨#[]⟩ none 0 0 ((hb.cell (p := ⟨b, k, none⟩) hlt).trans l0) ((hb.cell (p := ⟨b, k + 1, none⟩) hlt).trans l1) ((hb.cell (p := ⟨b, k + 2, none⟩) hlt).trans l2) ((hb.cell (p := ⟨b, k + 3, none⟩) hlt).trans l3) ((hb.cell (p := ⟨b, k + 4, none⟩) hlt).trans l4) ((hb.cell (p := ⟨b, k + 5, none⟩) hlt).trans l5) ((hb.cell (p := ⟨b, k + 6, none⟩) hlt).trans l6)
  have HC : Hid (∀ wd, Below w.heap.size w wd → wd.cell? ⟨b, k + 1, none⟩ = some (.string (nt q)) ∧ wd.cell? ⟨b, k + 2, none⟩ = some (.string (dt q))) := fun wd hb => ⟨(hb.cell (p := ⟨b, k + 1, none⟩) hlt).trans l1, (hb.cell (p := ⟨b, k + 2, none⟩) hlt).trans l2⟩
  have hB0 : Below w.heap.size w w.drew := (Below.refl _ _).drew
  change w.cell? ⟨b, k, none⟩ = some (.int .i64 1) at l0
  change w.cell? ⟨b, k + 1, none⟩ = some (.string (nt q)) at l1
  change w.cell? ⟨b, k + 2, none⟩ = some (.string (dt q)) at l2
  clear l3 l4 l5 l6 h hwf
  generalize nt q = nq at *
  generalize dt q = dq at *
  go_enter Tryz.func154, Tryz.ntmps154
  go_wp2_with fail
  go_region_held3 (fun W' => W'.cell? ⟨b, k + 1, none⟩ = some (.string nq) ∧ W'.cell? ⟨b, k + 2, none⟩ = some (.string dq)) (go_keep)
   (first
     | (go_at_call 169; refine (HO.out _ ‹Below w.heap.size w _›).mono ?_; rintro e w3 ⟨rfl, hb3⟩; have hB3 := chain2 ‹Below w.heap.size w _› hb3 (Nat.le_refl _); obtain ⟨l1, l2⟩ := HC.out _ hB3; clear hb3)
     | (go_at_call 170; refine (hF.out _).mono ?_; rintro e w4 ⟨rfl, hb4⟩; have hB4 := chain2 ‹Below w.heap.size w _› hb4 (Nat.le_refl _); obtain ⟨l1, l2⟩ := HC.out _ hB4; clear hb4))
  all_goals go_wp2
  all_goals go_ret
  all_goals exact ⟨rfl, ‹Below w.heap.size w _›⟩
 | str s =>
  intro b k p w S hwf hS h
  obtain ⟨x0, x1, x2, x3, x4, x5, e, l0, l1, l2, l3, l4, l5, l6⟩ := h.cells
  obtain rfl := h.2.2.flat rfl
  have hlt : b < w.heap.size := hS b h.1.1
  rw [cellsO_f] at e
  simp only [List.cons.injEq, and_true] at e
  obtain ⟨rfl, rfl, rfl, rfl, rfl, rfl⟩ := e
  have hsz : ((BA s).size : Int) ≤ 200 := by rw [BA_size]; have : s.length ≤ 200 := hwf; omega
  change w.cell? ⟨b, k, none⟩ = some (.int .i64 3) at l0
  change w.cell? ⟨b, k + 5, none⟩ = some (.string (BA s)) at l5
  have HO := qh9 (hasOnlyP b k w 3 ⟨#[]⟩ ⟨#[]⟩ ⟨#[]⟩ ⟨#[]⟩ (BA s) none 0 0 l0 l1 l2 l3 l4 l5 l6)
  have HC : Hid (∀ wd, Below w.heap.size w wd → wd.cell? ⟨b, k + 5, none⟩ = some (.string (BA s))) := fun wd hb => (hb.cell (p := ⟨b, k + 5, none⟩) hlt).trans l5
  clear l1 l2 l3 l4 l6 h hwf
  generalize BA s = t at *
  go_enter Tryz.func154, Tryz.ntmps154
  go_wp2_with fail
  refine HO.out.mono ?_
  rintro e w1 ⟨rfl, hb1⟩
  have j5 := HC.out _ hb1
  have HB := qh9 hb1
  clear hb1 l5 l0
  go_wp2
  go_ret
  exact ⟨rfl, HB.out⟩
 | sym s n =>
  intro b k p w S hwf hS h
  obtain ⟨x0, x1, x2, x3, x4, x5, e, l0, l1, l2, l3, l4, l5, l6⟩ := h.cells
  obtain rfl := h.2.2.flat rfl
  have hlt : b < w.heap.size := hS b h.1.1
  rw [cellsO_f] at e
  simp only [List.cons.injEq, and_true] at e
  obtain ⟨rfl, rfl, rfl, rfl, rfl, rfl⟩ := e
  obtain ⟨hpk, hn1, hn2⟩ := hwf
  have hN := fun w => isNameP (BA n) (by rw [BA_size]; exact hn1) (by rw [BA_size]; exact hn2) w
  replace hN := qh9 hN
  have hP : Hid (∀ w, Calls Tryz.prog 171 #[.string (BA s)] w fun e w' => e = .returned (.bool true) ∧ w = w') := by
   rcases hpk with rfl | rfl
   · exact isPackageP
   · exact isPackageU
  change w.cell? ⟨b, k, none⟩ = some (.int .i64 2) at l0
  change w.cell? ⟨b, k + 3, none⟩ = some (.string (BA s)) at l3
  change w.cell? ⟨b, k + 4, none⟩ = some (.string (BA n)) at l4
  have HO := qh9 (hasOnlyP b k w 2 ⟨#[]⟩ ⟨#[]⟩ (BA s) (BA n) ⟨#[]⟩ none 0 0 l0 l1 l2 l3 l4 l5 l6)
  have HC : Hid (∀ wd, Below w.heap.size w wd → wd.cell? ⟨b, k + 3, none⟩ = some (.string (BA s)) ∧ wd.cell? ⟨b, k + 4, none⟩ = some (.string (BA n))) := fun wd hb => ⟨(hb.cell (p := ⟨b, k + 3, none⟩) hlt).trans l3, (hb.cell (p := ⟨b, k + 4, none⟩) hlt).trans l4⟩
  clear l1 l2 l5 l6 h hn1 hn2 hpk
  generalize BA s = t at *
  generalize BA n = t' at *
  go_enter Tryz.func154, Tryz.ntmps154
  go_wp2_with fail
  refine HO.out.mono ?_
  rintro e w1 ⟨rfl, hb1⟩
  obtain ⟨j3, j4⟩ := HC.out _ hb1
  have HB := qh9 hb1
  clear hb1 l0 l3 l4
  go_wp2_with fail
  refine (hP.out _).mono ?_
  rintro e w2 ⟨rfl, rfl⟩
  go_wp2_with fail
  refine (hN.out _).mono ?_
  rintro e w2 ⟨rfl, rfl⟩
  go_wp2
  go_ret
  exact ⟨rfl, HB.out⟩
 | cons a d iha ihd =>
  intro b k p w S hwf hS h
  obtain ⟨x0, x1, x2, x3, x4, x5, e, l0, l1, l2, l3, l4, l5, l6⟩ := h.cells
  obtain ⟨b', o', c', pa, pd, rfl, hc, hA, hD⟩ := h.2.2.parts
  have hlt : b < w.heap.size := hS b h.1.1
  rw [cellsO_f] at e
  simp only [List.cons.injEq, and_true] at e
  obtain ⟨rfl, rfl, rfl, rfl, rfl, rfl⟩ := e
  have CA : Hid (∀ wd, Below w.heap.size w wd → Calls Tryz.prog 154 #[.pointer (some ⟨b', o', none⟩)] wd (RetB wd true)) := fun wd hb => iha b' o' pa wd S hwf.1 (hS.later hb.size) (hA.below hS hb)
  have CD : Hid (∀ wd, Below w.heap.size w wd → Calls Tryz.prog 154 #[.pointer (some ⟨b', o' + 7, none⟩)] wd (RetB wd true)) := fun wd hb => ihd b' (o' + 7) pd wd S hwf.2 (hS.later hb.size) (hD.below hS hb)
  change w.cell? ⟨b, k, none⟩ = some (.int .i64 4) at l0
  have HO := qh9 (hasOnlyP b k w 4 ⟨#[]⟩ ⟨#[]⟩ ⟨#[]⟩ ⟨#[]⟩ ⟨#[]⟩ (some ⟨b', o', none⟩) 2 c' l0 l1 l2 l3 l4 l5 l6)
  have HC : Hid (∀ wd, Below w.heap.size w wd → wd.cell? ⟨b, k + 6, none⟩ = some (.slice (some ⟨b', o', none⟩) 2 c')) := fun wd hb => (hb.cell (p := ⟨b, k + 6, none⟩) hlt).trans l6
  clear l1 l2 l3 l4 l5 h hwf iha ihd hA hD
  go_enter Tryz.func154, Tryz.ntmps154
  go_wp2_with fail
  refine HO.out.mono ?_
  rintro e w1 ⟨rfl, hb1⟩
  have j6 := HC.out _ hb1
  have HB := qh9 hb1
  clear hb1 l0 l6
  go_wp2_with fail
  refine (CA.out _ HB.out).mono ?_
  rintro e w2 ⟨rfl, hb2⟩
  have HB2 := qc9 HB hb2
  have j7 := HC.out _ HB2.out
  clear hb2 j6
  go_wp2_with fail
  refine (CD.out _ HB2.out).mono ?_
  rintro e w3 ⟨rfl, hb3⟩
  have HB3 := qc9 HB2 hb3
  clear hb3 j7
  go_wp2
  go_ret
  exact ⟨rfl, HB3.out⟩

theorem validP (a : Ob) (p : Value) (w : World) (S : Nat → Prop) (hwf : a.bd 90) (hn : a.nodes ≤ 3000) (hS : In S w) (h : Pair w S a p) :
 Calls Tryz.prog 125 #[vO a p] w (RetB w true) := by
 obtain ⟨x0, x1, x2, x3, x4, x5, e⟩ := cells7 a p
 have hb : Below w.heap.size w (w.alloc (.cells #[x0, x1, x2, x3, x4, x5, p] 33)) := Below.alloc (Below.refl _ _) (Nat.le_refl _) _
 have hg := heap_alloc_new w (.cells #[x0, x1, x2, x3, x4, x5, p] 33)
 have hA : At (w.alloc (.cells #[x0, x1, x2, x3, x4, x5, p] 33)) (fun b => S b ∨ b = w.heap.size) a w.heap.size 0 p := by
  refine ⟨⟨.inr rfl, _, _, hg⟩, fun j u hj => ?_, (h.below hS hb).more fun _ h => .inl h⟩
  rw [Nat.zero_add, cell_of_row _ _ _ _ _ _ hg, ← hj, e]
  simp
 have hS' : In (fun b => S b ∨ b = w.heap.size) (w.alloc (.cells #[x0, x1, x2, x3, x4, x5, p] 33)) := fun b hb => by
  rcases hb with hb | rfl
  · have := hS b hb; simp; omega
  · simp
 have N := nodesP a p _ S (hS.later hb.size) (h.below hS hb) hn
 unfold vO at N
 rw [e] at N
 replace N := qh9 N
 have V : Hid (∀ wd, Below (w.heap.size + 1) (w.alloc (.cells #[x0, x1, x2, x3, x4, x5, p] 33)) wd → Calls Tryz.prog 154 #[.pointer (some ⟨w.heap.size, 0, none⟩)] wd (RetB wd true)) := fun wd hb' =>
  wellP a w.heap.size 0 p wd _ hwf (hS'.later hb'.size) (hA.below (B := w.heap.size + 1) (fun b hb => by have := hS' b hb; simpa using this) hb')
 unfold vO
 rw [e]
 have hz : (w.alloc (.cells #[x0, x1, x2, x3, x4, x5, p] 33)).heap.size = w.heap.size + 1 := by simp
 have hnn : (a.nodes : Int) ≤ 3000 := by omega
 clear e hA hS' h hS hg hwf
 go_enter Tryz.func125, Tryz.ntmps125
 go_wp2_with fail
 refine N.out.mono ?_
 rintro e w1 ⟨rfl, hb1⟩
 rw [hz] at hb1
 have V1 := qh9 (V.out _ hb1)
 have HB := qh9 (hb.trans (hb1.mono (by omega)))
 clear hb1 hb V N hz
 go_wp2_with fail
 refine V1.out.mono ?_
 rintro e w2 ⟨rfl, hb2⟩
 have HB2 := qh9 (HB.out.trans (hb2.mono HB.out.size))
 clear hb2
 go_wp2
 go_ret
 exact ⟨rfl, HB2.out⟩






mutual
def Rw.cnt : Rw → Nat
 | .mk _ _ _ l => 1 + Rw.cnts l
def Rw.cnts : List Rw → Nat
 | [] => 0
 | r :: rs => r.cnt + Rw.cnts rs
end
mutual
def Rw.ok : Rw → Prop
 | .mk _ _ s l => s.size ≤ 12 ∧ l.length ≤ 6 ∧ Rw.oks l
def Rw.oks : List Rw → Prop
 | [] => True
 | r :: rs => r.ok ∧ Rw.oks rs
end
mutual
theorem leftV_ok : ∀ (r : Rw) (m : Int), 0 ≤ leftV r m → r.ok ∧ leftV r m = m - r.cnt
 | .mk k n s l, m, h => by
  unfold leftV at h ⊢
  split at h
  · omega
  · rename_i hs
    rw [if_neg hs]
    have h1 := leftL_ok l (m - 1) h
    unfold Rw.ok Rw.cnt
    refine ⟨⟨by omega, by omega, h1.1⟩, ?_⟩
    rw [h1.2]
    omega
theorem leftL_ok : ∀ (l : List Rw) (m : Int), 0 ≤ leftL l m → Rw.oks l ∧ leftL l m = m - Rw.cnts l
 | [], m, h => by unfold leftL Rw.oks Rw.cnts; exact ⟨trivial, by omega⟩
 | r :: rs, m, h => by
  unfold leftL at h ⊢
  by_cases h0 : 0 ≤ m
  · rw [if_pos h0] at h ⊢
    have h2 := leftL_ok rs (leftV r m) h
    have h3 : 0 ≤ leftV r m := by have := h2.2; omega
    have h1 := leftV_ok r m h3
    unfold Rw.oks Rw.cnts
    refine ⟨⟨h1.1, h2.1⟩, ?_⟩
    rw [h2.2, h1.2]
    omega
  · rw [if_neg h0] at h
    omega
end
theorem few_ok {r : Rw} {m : Int} (h : few r m = true) : r.ok ∧ (r.cnt : Int) ≤ m := by
 have h0 : 0 ≤ leftV r m := of_decide_eq_true h
 have h1 := leftV_ok r m h0
 exact ⟨h1.1, by omega⟩
theorem Rw.cnt_pos : ∀ r : Rw, 1 ≤ r.cnt
 | .mk _ _ _ _ => by unfold Rw.cnt; omega
theorem Rw.oks_mem : ∀ {l : List Rw}, Rw.oks l → ∀ r ∈ l, r.ok
 | r :: rs, h, x, hx => by
  unfold Rw.oks at h
  rcases List.mem_cons.1 hx with rfl | hx
  · exact h.1
  · exact Rw.oks_mem h.2 x hx
def NoB (b : Nat) : Prop := False
theorem NoB.in (w : World) : In NoB w := fun _ h => h.elim
def Ob.tx : Ob → Prop
 | .num _ => True
 | .str s => s.length ≤ 12
 | .sym _ n => n.length ≤ 8
 | .cons a d => a.tx ∧ d.tx
structure OkO (m : Nat) (o : Ob) : Prop where
 bd : o.bd 10
 nodes : o.nodes ≤ m
 tx : o.tx
def RetX (w : World) (m : Nat) (e : Ending) (w' : World) : Prop := ∃ o p, e = .returned (vO o p) ∧ Pair w' (Upto w w' NoB) o p ∧ Below w.heap.size w w' ∧ OkO m o
structure MkW (w W : World) (raw : Array Value) : Prop where
 bel : Below w.heap.size w W
 b0 : W.heap[w.heap.size]? = some (.cells raw 26 (0, 0))
 b1 : W.heap[w.heap.size + 1]? = some (.cells #[.int .i64 0, .string ⟨#[]⟩, .string ⟨#[]⟩, .string ⟨#[]⟩, .string ⟨#[]⟩, .string ⟨#[]⟩, .slice none 0 0] 33 (0, 0))
 sz : W.heap.size = w.heap.size + 2
theorem MkW.new (w : World) (raw : Array Value) : MkW w ((w.alloc (.cells raw 26)).alloc (.cells #[.int .i64 0, .string ⟨#[]⟩, .string ⟨#[]⟩, .string ⟨#[]⟩, .string ⟨#[]⟩, .string ⟨#[]⟩, .slice none 0 0] 33)) raw :=
 ⟨Below.alloc (Below.alloc (Below.refl _ _) (Nat.le_refl _) _) (by simp) _, heap_alloc2_old w _ _, heap_alloc2_new w _ _, by simp⟩
theorem MkW.cell {w W : World} {raw : Array Value} (h : MkW w W raw) (i : Nat) : W.cell? ⟨w.heap.size, i, none⟩ = raw[i]? := cell_of_row _ _ _ _ _ _ h.b0
theorem retX {fn : Func} {q : Tmp} {w0 : World} {S' : Nat → Prop} {tmps : Array Value} {w : World} {g m : Nat} {o : Ob} {p : Value} {t : TypeId} {old : Array Value} {fr : Nat × Nat}
 (h : fn.results = #[.cell q 33]) (hq : tmps.getD q undef = .pointer (some ⟨g, 0, none⟩)) (hg : w.heap[g]? = some (.cells old t fr))
 (hp : Pair w S' o p) (hn : ¬ S' g) (hS : ∀ b, S' b → Upto w0 w NoB b) (hlt : w0.heap.size ≤ g) (hb : Below w0.heap.size w0 w) (hm : OkO m o) :
 bodyPost Tryz.prog fn (RetX w0 m) Exit.ret ⟨tmps, []⟩ (w.setRow g (cellsO o p).toArray) :=
 retO h hq (setRow_heap _ _ _ _ _ _ hg) (by simp [cellsO_length]) ⟨o, p, rfl, (hp.setRow g hn _).more (fun b hb => by
  have := hS b hb
  unfold Upto at this ⊢
  rwa [size_setRow]), below_setRowO hb hlt _, hm⟩

theorem bd_small {n : Int} (h0 : -2000 ≤ n) (h1 : n ≤ 2000) : Bd 10 (n : Rat) := (bd_int (k := 4) (by omega) (by decide)).more (by decide)

theorem objInt (k n : Int) (s : ByteArray) (A : Option Addr) (L c : Nat) (w : World) (m : Nat) (hm : 1 ≤ m) (hq : k % 8 = 0 ∨ k % 8 = 1) (hk : I64 k) (hn : I64 n) (ht : Tab w) :
 Calls Tryz.prog 16 #[.agg #[.int .i64 k, .int .i64 n, .string s, .slice A L c]] w (RetX w m) := by
 have HT := qh9 ht
 have HK := qh9 hk
 have HN := qh9 hn
 have HQ := qh9 hq
 clear ht hk hn hq
 go_enter Tryz.func16, Tryz.ntmps16
 go_wp2_with fail
 have M := MkW.new w #[.int .i64 k, .int .i64 n, .string s, .slice A L c]
 refine (modO k 8 _ HK.out.1 HK.out.2 (by decide) (by decide)).mono ?_
 rintro e w1 ⟨rfl, rfl⟩
 generalize (w.alloc (.cells #[.int .i64 k, .int .i64 n, .string s, .slice A L c] 26)).alloc (.cells #[.int .i64 0, .string ⟨#[]⟩, .string ⟨#[]⟩, .string ⟨#[]⟩, .string ⟨#[]⟩, .string ⟨#[]⟩, .slice none 0 0] 33) = W at M ⊢
 have c1 : W.cell? ⟨w.heap.size, 1, none⟩ = some (.int .i64 n) := M.cell 1
 have HM := qh9 M
 clear M
 have hq := HQ.out
 clear HQ
 generalize k % 8 = q at hq ⊢
 have j0 := Int.emod_nonneg n (show (2001 : Int) ≠ 0 by decide)
 have j1 := Int.emod_lt_of_pos n (show (0 : Int) < 2001 by decide)
 have CM := qh9 (modO n 2001 W HN.out.1 HN.out.2 (by decide) (by decide))
 generalize n % 2001 = j at j0 j1 CM
 have CI : Hid (Calls Tryz.prog 59 #[.int .i64 (j - 1000)] W (RetO W NoB (.num ((j - 1000 : Int) : Rat)))) := intO (j - 1000) W NoB (NoB.in W) (i64_small (by omega)) (HT.out.below HM.out.bel)
 have OK : Hid (OkO m (.num ((j - 1000 : Int) : Rat))) := ⟨bd_small (by omega) (by omega), hm, trivial⟩
 generalize ((j - 1000 : Int) : Rat) = x at CI OK
 rcases hq with rfl | rfl
 all_goals
  go_wp2_with fail
  refine CM.out.mono ?_
  rintro e w1 ⟨rfl, rfl⟩
  go_wp2_with fail
  refine CI.out.mono ?_
  rintro e w2 ⟨p, rfl, hp, hb2⟩
  have hs2 := hb2.size
  have hsz := HM.out.sz
  have hg2 := qh9 ((hb2.block (w.heap.size + 1) (by omega)).trans HM.out.b1)
  have hbw := qh9 (HM.out.bel.trans (hb2.mono (by omega)))
  go_wp2_with (refine storeV (w1 := w2) rfl (.tmp 2) (.tmp 15) rfl (w.heap.size + 1) _ _ rfl rfl hp _ _ hg2.out rfl ?_)
  exact retX (q := 2) rfl rfl hg2.out hp (fun h => by
   rcases h with h | ⟨h, _⟩
   · exact h
   · omega) (fun b hb => by
   rcases hb with hb | ⟨h1, h2⟩
   · exact hb.elim
   · exact .inr ⟨by omega, h2⟩) (by omega) hbw.out OK.out
theorem MkW.below {w W W' : World} {raw : Array Value} (h : MkW w W raw) (hb : Below W.heap.size W W') : Below w.heap.size w W' ∧ W'.heap[w.heap.size]? = some (.cells raw 26 (0, 0)) ∧
 W'.heap[w.heap.size + 1]? = some (.cells #[.int .i64 0, .string ⟨#[]⟩, .string ⟨#[]⟩, .string ⟨#[]⟩, .string ⟨#[]⟩, .string ⟨#[]⟩, .slice none 0 0] 33 (0, 0)) := by
 have := h.sz
 exact ⟨h.bel.trans (hb.mono (by omega)), (hb.block _ (by omega)).trans h.b0, (hb.block _ (by omega)).trans h.b1⟩

theorem objText (k n : Int) (s : ByteArray) (A : Option Addr) (L c : Nat) (w : World) (m : Nat) (hm : 1 ≤ m) (hq : k % 8 = 4) (hk : I64 k) (hsz : s.size ≤ 12) :
 Calls Tryz.prog 16 #[.agg #[.int .i64 k, .int .i64 n, .string s, .slice A L c]] w (RetX w m) := by
 have HK := qh9 hk
 have HQ := qh9 hq
 have HSZ := qh9 hsz
 clear hk hq hsz
 go_enter Tryz.func16, Tryz.ntmps16
 go_wp2_with fail
 have M := MkW.new w #[.int .i64 k, .int .i64 n, .string s, .slice A L c]
 refine (modO k 8 _ HK.out.1 HK.out.2 (by decide) (by decide)).mono ?_
 rintro e w1 ⟨rfl, rfl⟩
 generalize (w.alloc (.cells #[.int .i64 k, .int .i64 n, .string s, .slice A L c] 26)).alloc (.cells #[.int .i64 0, .string ⟨#[]⟩, .string ⟨#[]⟩, .string ⟨#[]⟩, .string ⟨#[]⟩, .string ⟨#[]⟩, .slice none 0 0] 33) = W at M ⊢
 have c2 : W.cell? ⟨w.heap.size, 2, none⟩ = some (.string s) := M.cell 2
 have HM := qh9 M
 clear M
 have hq := HQ.out
 clear HQ
 generalize k % 8 = q at hq ⊢
 subst hq
 have OK : Hid (OkO m (.str (LA s))) := ⟨(show s.data.toList.length ≤ 2 * 10 + 20 from (by rw [Array.length_toList]; exact Nat.le_trans HSZ.out (by decide))), hm, (show s.data.toList.length ≤ 12 from (by rw [Array.length_toList]; exact HSZ.out))⟩
 go_wp2_with fail
 refine (textO s W NoB).mono ?_
 rintro e w2 ⟨p, rfl, hp, hb2⟩
 have hs2 := hb2.size
 have hsz := HM.out.sz
 have hg2 := qh9 ((hb2.block (w.heap.size + 1) (by omega)).trans HM.out.b1)
 have hbw := qh9 (HM.out.bel.trans (hb2.mono (by omega)))
 go_wp2_with (refine storeV (w1 := w2) rfl (.tmp 2) (.tmp 39) rfl (w.heap.size + 1) _ _ rfl rfl hp _ _ hg2.out rfl ?_)
 exact retX (q := 2) rfl rfl hg2.out hp (fun h => by
  rcases h with h | ⟨h, _⟩
  · exact h
  · omega) (fun b hb => by
  rcases hb with hb | ⟨h1, h2⟩
  · exact hb.elim
  · exact .inr ⟨by omega, h2⟩) (by omega) hbw.out OK.out

theorem objSym (k n : Int) (s : ByteArray) (A : Option Addr) (L c : Nat) (w : World) (m : Nat) (hm : 1 ≤ m) (hq : k % 8 = 3) (hk : I64 k) (hn : I64 n) :
 Calls Tryz.prog 16 #[.agg #[.int .i64 k, .int .i64 n, .string s, .slice A L c]] w (RetX w m) := by
 have HK := qh9 hk
 have HN := qh9 hn
 have HQ := qh9 hq
 clear hk hq hn
 go_enter Tryz.func16, Tryz.ntmps16
 go_wp2_with fail
 have M := MkW.new w #[.int .i64 k, .int .i64 n, .string s, .slice A L c]
 refine (modO k 8 _ HK.out.1 HK.out.2 (by decide) (by decide)).mono ?_
 rintro e w1 ⟨rfl, rfl⟩
 generalize (w.alloc (.cells #[.int .i64 k, .int .i64 n, .string s, .slice A L c] 26)).alloc (.cells #[.int .i64 0, .string ⟨#[]⟩, .string ⟨#[]⟩, .string ⟨#[]⟩, .string ⟨#[]⟩, .string ⟨#[]⟩, .slice none 0 0] 33) = W at M ⊢
 have c1 : W.cell? ⟨w.heap.size, 1, none⟩ = some (.int .i64 n) := M.cell 1
 have HM := qh9 M
 clear M
 have hq := HQ.out
 clear HQ
 generalize k % 8 = q at hq ⊢
 subst hq
 go_wp2_with fail
 refine (symMake n W HN.out.1 HN.out.2).mono ?_
 rintro e w1 ⟨a, b, rfl, hb1, hok⟩
 have hs1 := hb1.size
 have OK : Hid (OkO m (.sym (LA (BA a)) (LA (BA b)))) := ⟨(show SyOk (LA (BA a)) (LA (BA b)) from (by rw [LA_BA, LA_BA]; exact hok.1)), hm, (show (LA (BA b)).length ≤ 8 from (by rw [LA_BA]; exact hok.2))⟩
 have HB1 := qh9 hb1
 clear hb1 c1 hok
 go_wp2_with fail
 refine (symO (BA a) (BA b) w1 NoB).mono ?_
 rintro e w2 ⟨p, rfl, hp, hb2⟩
 have hs2 := hb2.size
 have hsz := HM.out.sz
 have hb12 := HB1.out.trans (hb2.mono hs1)
 have hg2 := qh9 ((hb12.block (w.heap.size + 1) (by omega)).trans HM.out.b1)
 have hbw := qh9 (HM.out.bel.trans (hb12.mono (by omega)))
 clear hb12
 go_wp2_with (refine storeV (w1 := w2) rfl (.tmp 2) (.tmp 34) rfl (w.heap.size + 1) _ _ rfl rfl hp _ _ hg2.out rfl ?_)
 exact retX (q := 2) rfl rfl hg2.out hp (fun h => by
  rcases h with h | ⟨h, _⟩
  · exact h
  · omega) (fun b hb => by
  rcases hb with hb | ⟨h1, h2⟩
  · exact hb.elim
  · exact .inr ⟨by omega, h2⟩) (by omega) hbw.out OK.out

theorem mkRetQ {w W : World} {m : Nat} {q : Rat} (hb : Below w.heap.size w W) {z0 z1 z2 z3 z4 z5 z6 : Value} (h1 : W.heap[w.heap.size + 1]? = some (.cells #[z0, z1, z2, z3, z4, z5, z6] 33 (0, 0))) (ok : OkO m (.num q)) {fn : Func} {r : Tmp} {tmps : Array Value}
 (h : fn.results = #[.cell r 33]) (hr : tmps.getD r undef = .pointer (some ⟨w.heap.size + 1, 0, none⟩)) :
 bodyPost Tryz.prog fn (RetX w m) Exit.ret ⟨tmps, []⟩ (((((((W.setCell ⟨w.heap.size + 1, 0, none⟩ (.int .i64 1)).setCell ⟨w.heap.size + 1, 1, none⟩ (.string (nt q))).setCell ⟨w.heap.size + 1, 2, none⟩ (.string (dt q))).setCell ⟨w.heap.size + 1, 3, none⟩ (.string ⟨#[]⟩)).setCell ⟨w.heap.size + 1, 4, none⟩ (.string ⟨#[]⟩)).setCell ⟨w.heap.size + 1, 5, none⟩ (.string ⟨#[]⟩)).setCell ⟨w.heap.size + 1, 6, none⟩ (.slice none 0 0)) := by
 rw [setRow7 h1 rfl]
 exact retX (S' := NoB) (o := .num q) (p := .slice none 0 0) h hr h1 rfl (fun h => h) (fun _ h => h.elim) (by omega) hb ok

theorem objRat (k n : Int) (s : ByteArray) (A : Option Addr) (L c : Nat) (w : World) (m : Nat) (hm : 1 ≤ m) (hq : k % 8 = 2) (hk : I64 k) (hn : I64 n) (hs : s.size ≤ 12) (ht : Tab w) :
 Calls Tryz.prog 16 #[.agg #[.int .i64 k, .int .i64 n, .string s, .slice A L c]] w (RetX w m) := by
 have HT := qh9 ht
 have HK := qh9 hk
 have HN := qh9 hn
 have HQ := qh9 hq
 clear hk hq hn ht
 go_enter Tryz.func16, Tryz.ntmps16
 go_wp2_with fail
 have M := MkW.new w #[.int .i64 k, .int .i64 n, .string s, .slice A L c]
 refine (modO k 8 _ HK.out.1 HK.out.2 (by decide) (by decide)).mono ?_
 rintro e w1 ⟨rfl, rfl⟩
 generalize (w.alloc (.cells #[.int .i64 k, .int .i64 n, .string s, .slice A L c] 26)).alloc (.cells #[.int .i64 0, .string ⟨#[]⟩, .string ⟨#[]⟩, .string ⟨#[]⟩, .string ⟨#[]⟩, .string ⟨#[]⟩, .slice none 0 0] 33) = W at M ⊢
 have c1 : W.cell? ⟨w.heap.size, 1, none⟩ = some (.int .i64 n) := M.cell 1
 have c2 : W.cell? ⟨w.heap.size, 2, none⟩ = some (.string s) := M.cell 2
 have HM := qh9 M
 clear M
 have hq := HQ.out
 clear HQ
 generalize k % 8 = q at hq ⊢
 subst hq
 have j0 := Int.emod_nonneg n (show (41 : Int) ≠ 0 by decide)
 have j1 := Int.emod_lt_of_pos n (show (0 : Int) < 41 by decide)
 have CM : Hid (∀ W, Calls Tryz.prog 41 #[.int .i64 n, .int .i64 41] W fun e w' => e = .returned (.int .i64 (n % 41)) ∧ W = w') := fun W => modO n 41 W HN.out.1 HN.out.2 (by decide) (by decide)
 generalize n % 41 = j at j0 j1 CM
 obtain ⟨z, hz⟩ : ∃ z : Nat, s.size = z := ⟨_, rfl⟩
 have hz12 : z ≤ 12 := by omega
 have HB : Hid (∀ W', Below W.heap.size W W' → Tab W') := fun W' h => HT.out.below (HM.out.below h).1
 have CF1 : Hid (∀ W', Below W.heap.size W W' → Calls Tryz.prog 61 #[.int .i64 (j - 20)] W' (RetS W' (j - 20))) := fun W' h => fromIntR _ W' (i64_small (by omega)) (HB.out W' h)
 have CF2 : Hid (∀ W', Below W.heap.size W W' → Calls Tryz.prog 61 #[.int .i64 (1 + (s.size : Int))] W' (RetS W' (1 + (s.size : Int)))) := fun W' h => fromIntR _ W' (i64_small (by omega)) (HB.out W' h)
 have t1 : (BA (text (j - 20))).size ≤ 10 := by
  rw [BA_size]; exact Nat.le_trans (text_length (k := 4) (by omega)) (by omega)
 have t2 : (BA (text (1 + (s.size : Int)))).size ≤ 10 := by
  rw [BA_size]; exact Nat.le_trans (text_length (k := 4) (by omega)) (by omega)
 have CQ : Hid (∀ W', Calls Tryz.prog 60 #[.string (BA (text (j - 20))), .string (BA (text (1 + (s.size : Int))))] W' (RetN W' (quo (LA (BA (text (j - 20)))) (LA (BA (text (1 + (s.size : Int)))))))) := fun W' => ratRN _ _ W' (by omega) (by omega)
 have OK : Hid (OkO m (.num (quo (LA (BA (text (j - 20)))) (LA (BA (text (1 + (s.size : Int)))))))) := ⟨(bd_quo (k := 10) (by show (BA _).size ≤ 10; omega) (by show (BA _).size ≤ 10; omega) (by decide)), hm, trivial⟩
 generalize quo (LA (BA (text (j - 20)))) (LA (BA (text (1 + (s.size : Int))))) = x at CQ OK
 have HS := qh9 hs
 have HC : Hid (∀ W', Below W.heap.size W W' → W'.cell? ⟨w.heap.size, 1, none⟩ = some (.int .i64 n) ∧ W'.cell? ⟨w.heap.size, 2, none⟩ = some (.string s)) := fun W' h => ⟨by rw [cell_of_row _ _ _ _ _ _ (HM.out.below h).2.1]; rfl, by rw [cell_of_row _ _ _ _ _ _ (HM.out.below h).2.1]; rfl⟩
 have e1 : IntKind.i64.wrap (j - 20) = j - 20 := IntWalk.i64_in _ (by omega)
 have e2 : IntKind.i64.wrap (1 + (s.size : Int)) = 1 + (s.size : Int) := IntWalk.i64_in _ (by omega)
 clear t1 t2 hz hz12 hs j0 j1
 have hB0 : Below W.heap.size W W.drew := (Below.refl _ _).drew
 go_wp2_with fail
 go_region_held3 (fun W' => W'.cell? ⟨w.heap.size, 1, none⟩ = some (.int .i64 n) ∧ W'.cell? ⟨w.heap.size, 2, none⟩ = some (.string s))
  (go_keep)
  (first
    | (go_at_call 41; refine (CM.out _).mono ?_; rintro e w3 ⟨rfl, rfl⟩)
    | (go_at_call 61; (with_reducible refine (CF1.out _ ‹Below W.heap.size W _›).mono ?_); rintro e w3 ⟨rfl, hb3⟩; have hB3 := chain2 ‹Below W.heap.size W _› hb3 (Nat.le_refl _); clear hb3 c1 c2; obtain ⟨c1, c2⟩ := HC.out _ hB3)
    | (go_at_call 61; (with_reducible refine (CF2.out _ ‹Below W.heap.size W _›).mono ?_); rintro e w4 ⟨rfl, hb4⟩; have hB4 := chain2 ‹Below W.heap.size W _› hb4 (Nat.le_refl _); clear hb4 c1 c2; obtain ⟨c1, c2⟩ := HC.out _ hB4)
    | (go_at_call 60; refine (CQ.out _).mono ?_; rintro e w5 ⟨rfl, hb5⟩; have hB5 := chain2 ‹Below W.heap.size W _› hb5 (Nat.le_refl _); clear hb5 c1 c2; obtain ⟨c1, c2⟩ := HC.out _ hB5; have hg5 := (HM.out.below hB5).2.2; obtain ⟨⟨z0, z1, z2, z3, z4, z5, z6⟩, hz0⟩ := row7 hg5; clear hg5; unfold vQ))
 all_goals go_wp2
 all_goals exact mkRetQ (HM.out.below ‹Below W.heap.size W _›).1 (HM.out.below ‹Below W.heap.size W _›).2.2 OK.out rfl rfl
end Go.Proofs.YtinjhnnpbejccaaGreatDoor
