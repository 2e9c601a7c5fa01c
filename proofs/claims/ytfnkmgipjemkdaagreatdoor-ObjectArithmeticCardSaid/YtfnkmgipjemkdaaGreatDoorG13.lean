/- The program's comparison: orderWithoutPairs, isSettled. -/
import Derived.Test.YtfnkmgipjemkdaaGreatDoorG12
import Derived.Deep.RegionWith
import Derived.Deep.DeepCutAuto
import Derived.StillTailTactics
namespace Go.Proofs.YtfnkmgipjemkdaaGreatDoor
open Go Go.RowKit
set_option linter.unusedVariables false

/-- The comparison in block g, after k steps. -/
def CmpAt (w : World) (g : Nat) (x : Bool) (k : Nat) : Prop := w.heap[g]? = some (.cells #[.bool x, .int .i64 k, .map none] 66 (0, 0))
/-- From w on only the comparison in g has turned: its steps are between lo and hi. -/
def Run (w wr : World) (g : Nat) (x : Bool) (lo hi : Nat) : Prop := w.grownBy wr (some g) ∧ ∃ k, CmpAt wr g x k ∧ lo ≤ k ∧ k ≤ hi
theorem CmpAt.lt {w : World} {g : Nat} {x : Bool} {k : Nat} (h : CmpAt w g x k) : g < w.heap.size := by
  unfold CmpAt at h
  rcases Nat.lt_or_ge g w.heap.size with hlt | hge
  · exact hlt
  · rw [Array.getElem?_eq_none hge] at h; cases h
theorem CmpAt.c0 {w : World} {g : Nat} {x : Bool} {k : Nat} (h : CmpAt w g x k) : w.cell? ⟨g, 0, none⟩ = some (.bool x) := by rw [cell_of_row _ _ _ _ _ _ h]; rfl
theorem CmpAt.c1 {w : World} {g : Nat} {x : Bool} {k : Nat} (h : CmpAt w g x k) : w.cell? ⟨g, 1, none⟩ = some (.int .i64 k) := by rw [cell_of_row _ _ _ _ _ _ h]; rfl
theorem CmpAt.f1 {w : World} {g : Nat} {x : Bool} {k : Nat} (h : CmpAt w g x k) : w.frozen? ⟨g, 1, none⟩ = false := by
  unfold CmpAt at h
  simp [World.frozen?, h]
theorem CmpAt.set {w : World} {g : Nat} {x : Bool} {k : Nat} (h : CmpAt w g x k) (k' : Nat) : CmpAt (w.setCell ⟨g, 1, none⟩ (.int .i64 (k' : Nat))) g x k' := by
  unfold CmpAt at h ⊢
  simp [World.setCell, Array.getElem?_modify, h]
theorem Run.start {w : World} {g : Nat} {x : Bool} {k : Nat} (h : CmpAt w g x k) : Run w w g x k k := ⟨⟨rfl, rfl, rfl, Nat.le_refl _, fun _ _ _ => rfl⟩, k, h, Nat.le_refl _, Nat.le_refl _⟩
theorem Run.below {w wr w' : World} {g : Nat} {x : Bool} {lo hi : Nat} (h : Run w wr g x lo hi) (hb : Below wr.heap.size wr w') : Run w w' g x lo hi := by
  obtain ⟨hg, k, hc, h1, h2⟩ := h
  exact ⟨⟨hb.os.trans hg.os, hb.tape.trans hg.tape, hb.output.trans hg.output, Nat.le_trans hg.size hb.size, fun i hi hn => (hb.block i (Nat.lt_of_lt_of_le hi hg.size)).trans (hg.block i hi hn)⟩, k, (hb.block g hc.lt).trans hc, h1, h2⟩
theorem Run.drewN {w wr : World} {g : Nat} {x : Bool} {lo hi : Nat} (h : Run w wr g x lo hi) (n : Nat) : Run w (wr.drewN n) g x lo hi := h.below ⟨rfl, rfl, rfl, Nat.le_refl _, fun _ _ => rfl⟩
theorem Run.drew {w wr : World} {g : Nat} {x : Bool} {lo hi : Nat} (h : Run w wr g x lo hi) : Run w wr.drew g x lo hi := h.below ⟨rfl, rfl, rfl, Nat.le_refl _, fun _ _ => rfl⟩
theorem Run.more {w wr : World} {g : Nat} {x : Bool} {lo hi hi' : Nat} (h : Run w wr g x lo hi) (hh : hi ≤ hi') : Run w wr g x lo hi' := by
  obtain ⟨hg, k, hc, h1, h2⟩ := h
  exact ⟨hg, k, hc, h1, Nat.le_trans h2 hh⟩
theorem Run.trans {w wr w' : World} {g : Nat} {x : Bool} {lo hi' k : Nat} (h : w.grownBy wr (some g)) (hk : lo ≤ k) (h' : Run wr w' g x k hi') : Run w w' g x lo hi' := by
  obtain ⟨hg, k', hc, h1, h2⟩ := h'
  refine ⟨⟨hg.os.trans h.os, hg.tape.trans h.tape, hg.output.trans h.output, Nat.le_trans h.size hg.size, fun i hi hn => (hg.block i (Nat.lt_of_lt_of_le hi h.size) hn).trans (h.block i hi hn)⟩, k', hc, by omega, h2⟩
theorem Run.set {w wr : World} {g : Nat} {x : Bool} {lo k : Nat} (h : w.grownBy wr (some g)) (hc : CmpAt wr g x k) (hlo : lo ≤ k) : Run w (wr.setCell ⟨g, 1, none⟩ (.int .i64 ((k + 1 : Nat) : Int))) g x lo (k + 1) := by
  refine ⟨⟨h.os, h.tape, h.output, by simpa [World.setCell] using h.size, fun i hi hn => ?_⟩, k + 1, hc.set (k + 1), by omega, Nat.le_refl _⟩
  exact (Below.heap_setCell wr ⟨g, 1, none⟩ _ i (fun e => hn (by rw [e]))).trans (h.block i hi hn)
theorem At.run {w wr : World} {S : Nat → Prop} {g : Nat} {x : Bool} {lo hi : Nat} {o : Ob} {b k : Nat} {p : Value} (h : At w S o b k p) (hS : In S w) (hg : ¬ S g) (r : Run w wr g x lo hi) : At wr S o b k p :=
  h.keep (fun _ h => h) fun q hq => r.1.block q (hS q hq) (fun e => hg (by injection e with e; rwa [e] at hq))

theorem owp_ne {x : Bool} {a b : Ob} (h : owp x a b ≠ 0) : ordX x a b = owp x a b := by
  unfold owp at h ⊢
  split
  · rename_i hc; rw [if_pos hc] at h; exact absurd rfl h
  · rfl
theorem owp_eq {x : Bool} {a b : Ob} (h : owp x a b = 0) : a = b ∧ a.isCons = false ∨ a.isCons = true ∧ b.isCons = true := by
  unfold owp at h
  split at h
  · rename_i hc
    right
    simpa using hc
  · rename_i hc
    have e := (ordX_zero x a b).1 h
    subst e
    left
    refine ⟨rfl, ?_⟩
    cases hh : a.isCons with
    | false => rfl
    | true => exact absurd (by rw [hh]; rfl) hc

set_option maxHeartbeats 4000000 in
set_option maxRecDepth 100000 in
theorem owpP (d : Nat) (hd : d ≤ 1000) (a a' : Ob) (b k b' k' : Nat) (p p' : Value) (w : World) (S : Nat → Prop) (ha : a.bd d) (ha' : a'.bd d) (h : At w S a b k p) (h' : At w S a' b' k' p') (g : Nat) (x : Bool) (hc : w.cell? ⟨g, 0, none⟩ = some (.bool x)) :
    Calls Tryz.prog 90 #[.pointer (some ⟨g, 0, none⟩), .pointer (some ⟨b, k, none⟩), .pointer (some ⟨b', k', none⟩)] w (RetI w (owp x a a')) := by
  cases x with
  | false =>
    have call := Lib.hid (cmpFieldsP d hd a a' b k b' k' p p' w S ha ha' h h')
    have hr : Hid (ordF a a' = owp false a a') := rfl
    clear h h' ha ha'
    go_enter Tryz.func90, Tryz.ntmps90
    go_wp2_with fail
    refine call.out.mono ?_
    rintro e w' ⟨rfl, hb⟩
    have HB := Lib.hid hb
    clear hb
    go_wp2
    go_ret
    exact ⟨ret_int hr.out, HB.out⟩
  | true =>
    have call := Lib.hid (sameP a a' b k b' k' p p' w S h h')
    have hr : Hid (owp true a a' = if a.same a' then 0 else 1) := by
      show _ = _
      unfold owp Ob.same ordX eqI
      cases a.isCons && a'.isCons <;> simp
    clear h h' ha ha'
    rw [hr.out]
    generalize a.same a' = r at call ⊢
    cases r
    · go_enter Tryz.func90, Tryz.ntmps90
      go_wp2_with fail
      refine call.out.mono ?_
      intro e w' hq
      obtain ⟨rfl, hb⟩ := hq.below
      have HB := Lib.hid hb
      clear hb hq
      go_wp2
      go_ret
      exact ⟨rfl, HB.out⟩
    · go_enter Tryz.func90, Tryz.ntmps90
      go_wp2_with fail
      refine call.out.mono ?_
      intro e w' hq
      obtain ⟨rfl, hb⟩ := hq.below
      have HB := Lib.hid hb
      clear hb hq
      go_wp2
      go_ret
      exact ⟨rfl, HB.out⟩

set_option maxHeartbeats 4000000 in
set_option maxRecDepth 100000 in
theorem settled0 (g : Nat) (w : World) :
    Calls Tryz.prog 92 #[.pointer (some ⟨g, 0, none⟩), .slice none 0 0, .slice none 0 0] w (QuietV w (.bool true)) := by
  go_enter Tryz.func92, Tryz.ntmps92
  go_wp2_with fail
  go_quiet (fail)
  go_wp2
  go_ret
  exact ⟨rfl, _, rfl⟩
set_option maxHeartbeats 4000000 in
set_option maxRecDepth 100000 in
theorem settledSame (g b o c c' : Nat) (w : World) :
    Calls Tryz.prog 92 #[.pointer (some ⟨g, 0, none⟩), .slice (some ⟨b, o, none⟩) 2 c, .slice (some ⟨b, o, none⟩) 2 c'] w (QuietV w (.bool true)) := by
  have e : (Tryz.prog.info? 31).map (fun i => decide (i.size ≠ 0)) = some true := by kernel_rfl
  obtain ⟨j, hj⟩ : ∃ j, Tryz.prog.info? 31 = some j := by
    generalize Tryz.prog.info? 31 = i at e
    cases i with
    | none => cases e
    | some j => exact ⟨j, rfl⟩
  have he : ∀ w, (binOp .eql 63 (.pointer (some ⟨b, o, none⟩)) (.pointer (some ⟨b, o, none⟩))).run Tryz.prog w = .ok (.bool true) w := fun w => run_eql_ptr_same w ⟨b, o, none⟩ Tryz.underlying63 hj
  clear e hj
  go_enter Tryz.func92, Tryz.ntmps92
  go_wp2_with fail
  go_quiet (fail)
  go_wp2
  go_ret
  exact ⟨rfl, _, rfl⟩
set_option maxHeartbeats 4000000 in
set_option maxRecDepth 100000 in
theorem settledOther (g b o c b' o' c' : Nat) (w0 w : World) (x : Bool) (lo hi : Nat) (he : ∀ n, (binOp .eql 63 (.pointer (some ⟨b, o, none⟩)) (.pointer (some ⟨b', o', none⟩))).run Tryz.prog (w.drewN n) = .ok (.bool false) (w.drewN n)) (hr : Run w0 w g x lo hi) (hh : hi + 1 ≤ 3000) :
    Calls Tryz.prog 92 #[.pointer (some ⟨g, 0, none⟩), .slice (some ⟨b, o, none⟩) 2 c, .slice (some ⟨b', o', none⟩) 2 c'] w (fun e w' => e = .returned (.bool false) ∧ Run w0 w' g x lo (hi + 1)) := by
  obtain ⟨hg, k, hc, h1, h2⟩ := hr
  have c1 := hc.c1
  have f1 := hc.f1
  have hk : (k : Int) + 1 ≤ 3000 := by omega
  have hk0 : (k : Int) ≤ 3000 := by omega
  have R : Hid (∀ n, Run w0 ((w.drewN n).setCell ⟨g, 1, none⟩ (.int .i64 ((k + 1 : Nat) : Int))) g x lo (hi + 1)) := fun n =>
    (Run.set (wr := w.drewN n) (Run.drewN (show Run w0 w g x lo k from ⟨hg, k, hc, h1, Nat.le_refl _⟩) n).1 hc h1).more (by omega)
  clear hc hg
  go_enter Tryz.func92, Tryz.ntmps92
  go_wp2_with fail
  go_quiet (fail)
  go_wp2
  go_ret
  exact ⟨rfl, R.out _⟩
end Go.Proofs.YtfnkmgipjemkdaaGreatDoor

/- The program's comparison: order. -/
namespace Go.Proofs.YtfnkmgipjemkdaaGreatDoor
open Go Go.RowKit
set_option linter.unusedVariables false

theorem ptr_ne {w : World} {b k b' k' : Nat} (h : Plain w b) (h' : Plain w b') (hne : ¬ (b = b' ∧ k = k')) :
    (binOp .eql 63 (.pointer (some ⟨b, k, none⟩)) (.pointer (some ⟨b', k', none⟩))).run Tryz.prog w = .ok (.bool false) w := by
  obtain ⟨_, _, h1⟩ := h
  obtain ⟨_, _, h2⟩ := h'
  have e : (Tryz.prog.info? 31).map (fun i => decide (i.size ≠ 0)) = some true := by kernel_rfl
  obtain ⟨j, hj, hs⟩ : ∃ j, Tryz.prog.info? 31 = some j ∧ j.size ≠ 0 := by
    generalize Tryz.prog.info? 31 = i at e
    cases i with
    | none => cases e
    | some j => exact ⟨j, rfl, by simpa using e⟩
  clear e
  exact run_eql_ptr_other w Tryz.underlying63 hj hs (fun e => by
    injection e with e1 e2
    exact hne ⟨e1, e2⟩) h1 h2
def RetC (w : World) (g : Nat) (x : Bool) (k m : Nat) (r : Int) (e : Ending) (w' : World) : Prop := e = .returned (.int .i64 r) ∧ Run w w' g x k (k + m)
/-- Between rounds: the objects that are still to be compared. -/
def OrdAt (w : World) (S : Nat → Prop) (x : Bool) (d : Nat) (y y' : Ob) (b o b' o' : Nat) (r : Int) : Prop :=
  (∃ p, At w S y b o p) ∧ (∃ p, At w S y' b' o' p) ∧ y.bd d ∧ y'.bd d ∧ ordX x y y' = r

set_option maxHeartbeats 8000000 in
set_option maxRecDepth 100000 in
theorem orderO (d : Nat) (hd : d ≤ 1000) : ∀ (N : Nat) (a a' : Ob) (b o b' o' : Nat) (p p' : Value) (w : World) (S : Nat → Prop) (g : Nat) (x : Bool) (k : Nat), a.nodes ≤ N → a.bd d → a'.bd d → At w S a b o p → At w S a' b' o' p' → In S w → ¬ S g → CmpAt w g x k → k + a.nodes ≤ 3000 →
    Calls Tryz.prog 62 #[.pointer (some ⟨g, 0, none⟩), .pointer (some ⟨b, o, none⟩), .pointer (some ⟨b', o', none⟩)] w (RetC w g x k a.nodes (ordX x a a')) := by
  intro N
  induction N with
  | zero => intro a a' b o b' o' p p' w S g x k hN; have := a.nodes_pos; omega
  | succ N IH =>
    intro a a' b o b' o' p p' w S g x k hN ha ha' hA hA' hS hg hc hk
    have pos := a.nodes_pos
    have IH' := Lib.hid IH
    have HS := Lib.hid hS
    have HG := Lib.hid hg
    clear IH hS hg
    obtain ⟨r, hr⟩ : ∃ r, ordX x a a' = r := ⟨_, rfl⟩
    obtain ⟨m, hm⟩ : ∃ m, a.nodes = m := ⟨_, rfl⟩
    rw [hr]
    rw [hm] at hN hk pos ⊢
    have h0 : Hid (OrdAt w S x d a a' b o b' o' r) := ⟨⟨p, hA⟩, ⟨p', hA'⟩, ha, ha', hr⟩
    have r0 : Hid (Run w w g x k k) := Run.start hc
    have hm' : a.nodes ≤ m := by omega
    clear hA hA' ha ha' hr hm hc
    go_enter Tryz.func62, Tryz.ntmps62
    go_wp2_with fail
    go_loopg [1, 2] m (fun n u v wr => ∃ (y y' : Ob) (b o b' o' hi : Nat), u = .pointer (some ⟨b, o, none⟩) ∧ v = .pointer (some ⟨b', o', none⟩) ∧ y.nodes ≤ n ∧ n ≤ m ∧ hi + y.nodes ≤ k + m ∧ Hid (OrdAt w S x d y y' b o b' o' r) ∧ Hid (Run w wr g x k hi))
    case atStart => exact ⟨a, a', b, o, b', o', k, rfl, rfl, hm', Nat.le_refl _, by omega, h0, r0⟩
    case round =>
      clear h0 r0
      obtain ⟨y, y', b, o, b', o', hi, rfl, rfl, hyn, hnm, hhi, hE, hR⟩ := hrel
      obtain ⟨wo, rfl⟩ : ∃ wo : World, wo = wr := ⟨_, rfl⟩
      obtain ⟨⟨p, hA⟩, ⟨p', hA'⟩, hy, hy', hr⟩ := hE.out
      clear hE
      have posy := y.nodes_pos
      obtain ⟨_, k1, hck, _, _⟩ := hR.out
      have C1 := Lib.hid (owpP d hd y y' b o b' o' p p' wo S hy hy' (hA.run HS.out HG.out hR.out) (hA'.run HS.out HG.out hR.out) g x hck.c0)
      have L6 : Hid (∀ wd hi, Run w wd g x k hi → wd.cell? ⟨b, o + 6, none⟩ = some p ∧ wd.cell? ⟨b', o' + 6, none⟩ = some p') := fun wd hi hr => ⟨(hA.run HS.out HG.out hr).last, (hA'.run HS.out HG.out hr).last⟩
      clear hck
      by_cases h0 : owp x y y' = 0
      · rcases owp_eq h0 with ⟨heq, hf⟩ | ⟨hcy, hcy'⟩
        · obtain rfl := hA.2.2.flat hf
          obtain rfl := hA'.2.2.flat (by rw [← heq]; exact hf)
          have hr0 : Hid (r = 0) := by show r = 0; rw [← hr]; exact (ordX_zero x y y').2 heq
          have hn : (owp x y y' != 0) = false := by rw [h0]; rfl
          have hn2 : ordI (0 : Int) 0 = 0 := rfl
          have hfin : k + m ≥ hi := by omega
          clear hA hA' hr heq hf h0 hy hy'
          go_wp2_with fail
          refine C1.out.mono ?_
          rintro e w1 ⟨rfl, hb1⟩
          have R1 := Lib.hid (hR.out.below hb1)
          obtain ⟨l6, m6⟩ := L6.out w1 hi R1.out
          clear hb1 hR
          go_wp2_with fail
          go_quiet ((go_at_call 91; exact quiet_same (cmpAny _ _ _)))
          have R2 := Lib.hid (R1.out.drewN nq)
          change (w1.drewN nq).cell? _ = _ at l6 m6
          generalize w1.drewN nq = w2 at l6 m6 R2 ⊢
          clear R1
          go_wp2_with fail
          go_still_tail 9, (by kernel_rfl)
          change wpList _ _ _ _ _ w2.drew
          have R3 := Lib.hid R2.out.drew
          clear l6 m6 R2
          generalize w2.drew = w3 at R3 ⊢
          go_wp2_with fail
          refine (settled0 g w3).mono ?_
          intro e w4 hq
          obtain ⟨rfl, hb⟩ := hq.below
          have R4 := Lib.hid (R3.out.below hb)
          clear hq hb R3
          go_wp2
          go_ret
          exact ⟨ret_int hr0.out.symm, R4.out.more hfin⟩
        · cases y with
          | cons c e =>
            cases y' with
            | cons c' e' =>
              obtain ⟨bb, oo, cc, pc, pe, rfl, hcc, hC, hE⟩ := hA.2.2.parts
              obtain ⟨bb', oo', cc', pc', pe', rfl, hcc', hC', hE'⟩ := hA'.2.2.parts
              have hnn : (Ob.cons c e).nodes = 1 + c.nodes + e.nodes := rfl
              have posc := c.nodes_pos
              have pose := e.nodes_pos
              rw [ordX_cons] at hr
              have hn : (owp x (Ob.cons c e) (Ob.cons c' e') != 0) = false := by rw [h0]; rfl
              have hn2 : ordI (2 : Int) 2 = 0 := rfl
              have hfin : k + m ≥ hi := by omega
              have C3 : Hid (∀ wd, Run w wd g x k (hi + 1) → Calls Tryz.prog 62 #[.pointer (some ⟨g, 0, none⟩), .pointer (some ⟨bb, oo, none⟩), .pointer (some ⟨bb', oo', none⟩)] wd (fun e w' => e = .returned (.int .i64 (ordX x c c')) ∧ Run w w' g x k (hi + 1 + c.nodes))) := by
                intro wd hrun
                obtain ⟨hgr, k', hck, h1, h2⟩ := hrun
                have hrun : Run w wd g x k (hi + 1) := ⟨hgr, k', hck, h1, h2⟩
                refine (IH'.out c c' bb oo bb' oo' pc pc' wd S g x k' (by omega) hy.1 hy'.1 (hC.run HS.out HG.out hrun) (hC'.run HS.out HG.out hrun) (HS.out.later hgr.size) HG.out hck (by omega)).mono ?_
                rintro e w' ⟨he, hrun'⟩
                exact ⟨he, (Run.trans hgr h1 hrun').more (by omega)⟩
              have hlim : hi + 1 ≤ 3000 := by omega
              have hce : hi + 1 + c.nodes + e.nodes ≤ k + m := by omega
              have heg : e.nodes < gk := by omega
              have hem : e.nodes ≤ m := by omega
              have HE : Hid ((∃ p, At w S e bb (oo + 7) p) ∧ (∃ p, At w S e' bb' (oo' + 7) p) ∧ e.bd d ∧ e'.bd d) := ⟨⟨_, hE⟩, ⟨_, hE'⟩, hy.2, hy'.2⟩
              by_cases hsame : bb = bb' ∧ oo = oo'
              · obtain ⟨rfl, rfl⟩ := hsame
                have e1 := hC.inj hC'
                have e2 := hE.inj hE'
                have hr0 : Hid (r = 0) := by
                  show r = 0
                  rw [← hr, (ordX_zero x c c').2 e1, (ordX_zero x e e').2 e2]; rfl
                clear hA hA' hr h0 hy hy' hC hC' hE hE' hnn e1 e2 hcy hcy' C3 HE
                go_wp2_with fail
                refine C1.out.mono ?_
                rintro e w1 ⟨rfl, hb1⟩
                have R1 := Lib.hid (hR.out.below hb1)
                obtain ⟨l6, m6⟩ := L6.out w1 hi R1.out
                clear hb1 hR
                go_wp2_with fail
                go_quiet ((go_at_call 91; exact quiet_same (cmpAny _ _ _)))
                have R2 := Lib.hid (R1.out.drewN nq)
                change (w1.drewN nq).cell? _ = _ at l6 m6
                generalize w1.drewN nq = w2 at l6 m6 R2 ⊢
                clear R1
                go_wp2_with fail
                go_still_tail 9, (by kernel_rfl)
                change wpList _ _ _ _ _ w2.drew
                have R3 := Lib.hid R2.out.drew
                clear l6 m6 R2
                generalize w2.drew = w3 at R3 ⊢
                go_wp2_with fail
                refine (settledSame g bb oo cc cc' w3).mono ?_
                intro e w4 hq
                obtain ⟨rfl, hb⟩ := hq.below
                have R4 := Lib.hid (R3.out.below hb)
                clear hq hb R3
                go_wp2
                go_ret
                exact ⟨ret_int hr0.out.symm, R4.out.more hfin⟩
              · have C2 : Hid (∀ wd, Run w wd g x k hi → Calls Tryz.prog 92 #[.pointer (some ⟨g, 0, none⟩), .slice (some ⟨bb, oo, none⟩) 2 cc, .slice (some ⟨bb', oo', none⟩) 2 cc'] wd (fun e w' => e = .returned (.bool false) ∧ Run w w' g x k (hi + 1))) := by
                  intro wd hrun
                  exact settledOther g bb oo cc bb' oo' cc' w wd x k hi (fun n => ptr_ne (hC.run HS.out HG.out (hrun.drewN n)).1.2 (hC'.run HS.out HG.out (hrun.drewN n)).1.2 hsame) hrun hlim
                have HR := Lib.hid hr
                have hfin2 : hi + 1 + c.nodes ≤ k + m := by omega
                clear hA hA' hr h0 hy hy' hC hC' hE hE' hnn hcy hcy' hsame
                go_wp2_with fail
                refine C1.out.mono ?_
                rintro e' w1 ⟨rfl, hb1⟩
                have R1 := Lib.hid (hR.out.below hb1)
                obtain ⟨l6, m6⟩ := L6.out w1 hi R1.out
                clear hb1 hR
                go_wp2_with fail
                go_quiet ((go_at_call 91; exact quiet_same (cmpAny _ _ _)))
                have R2 := Lib.hid (R1.out.drewN nq)
                change (w1.drewN nq).cell? _ = _ at l6 m6
                generalize w1.drewN nq = w2 at l6 m6 R2 ⊢
                clear R1
                go_wp2_with fail
                go_still_tail 9, (by kernel_rfl)
                change wpList _ _ _ _ _ w2.drew
                have R3 := Lib.hid R2.out.drew
                clear l6 m6 R2
                generalize w2.drew = w3 at R3 ⊢
                go_wp2_with fail
                refine (C2.out w3 R3.out).mono ?_
                rintro e' w4 ⟨rfl, hr4⟩
                obtain ⟨l6, m6⟩ := L6.out w4 _ hr4
                have R4 : Hid (Run w w4 g x k (hi + 1 + 0 * c.nodes)) := hr4.more (by omega)
                clear hr4 R3 C2 C1
                go_wp2_with fail
                clear l6 m6
                go_loopw [50] (fun v wr => ∃ i : Nat, i ≤ 1 ∧ v = .int .i64 i ∧ Hid (Run w wr g x k (hi + 1 + i * c.nodes)) ∧ Hid (0 < i → ordX x c c' = 0)) (fun v _ => 1 - (intOf v).toNat)
                case atStart => exact ⟨0, by omega, rfl, R4, fun h => by omega⟩
                case round =>
                  clear R4
                  obtain ⟨i, hi1, rfl, R5, HO⟩ := hrel
                  obtain ⟨w5, rfl⟩ : ∃ w5 : World, w5 = wr := ⟨_, rfl⟩
                  obtain ⟨l6, m6⟩ := L6.out w5 _ R5.out
                  by_cases hi0 : i = 0
                  · subst hi0
                    have R6 : Hid (Run w w5 g x k (hi + 1)) := R5.out.more (by omega)
                    clear R5 hi1 HO
                    go_wp2_with fail
                    go_still_tail 13, (by kernel_rfl)
                    change wpList _ _ _ _ _ w5.drew
                    have R7 := Lib.hid R6.out.drew
                    clear l6 m6 R6
                    generalize w5.drew = w6 at R7 ⊢
                    go_wp2_with fail
                    refine (C3.out w6 R7.out).mono ?_
                    rintro e' w7 ⟨rfl, hr7⟩
                    have R8 := Lib.hid hr7
                    clear hr7 R7
                    by_cases hz : ordX x c c' = 0
                    · have hzn : (ordX x c c' != 0) = false := by rw [hz]; rfl
                      have HZ := Lib.hid hz
                      clear hz
                      go_wp2
                      go_roundw
                      case rel => exact ⟨1, Nat.le_refl _, rfl, R8.out.more (by omega), fun _ => HZ.out⟩
                      case measure => simp [intOf]
                    · have hzn : (ordX x c c' != 0) = true := by rw [bne_iff_ne]; exact hz
                      have HZ : Hid (r = ordX x c c') := by show _ = _; rw [← HR.out]; unfold next; rw [if_neg hz]
                      clear hz
                      go_wp2
                      go_ret
                      exact ⟨ret_int HZ.out.symm, R8.out.more hfin2⟩
                  · have hi2 : i = 1 := by omega
                    subst hi2
                    have R6 : Hid (Run w w5 g x k (hi + 1 + c.nodes)) := R5.out.more (by omega)
                    have HZ : Hid (ordX x e e' = r) := by
                      show _ = _
                      rw [← HR.out]
                      unfold next
                      rw [if_pos (HO.out (by omega))]
                    clear R5 hi1 HO hi0
                    go_wp2_with fail
                    go_quiet (fail)
                    have R7 := Lib.hid (R6.out.drewN nq)
                    clear l6 m6 R6
                    generalize w5.drewN nq = w6 at R7 ⊢
                    go_wp2
                    go_roundg e.nodes
                    case measure => exact heg
                    case rel => exact ⟨e, e', bb, oo + 7, bb', oo' + 7, hi + 1 + c.nodes, rfl, rfl, Nat.le_refl _, hem, hce, ⟨HE.out.1, HE.out.2.1, HE.out.2.2.1, HE.out.2.2.2, HZ.out⟩, R7⟩
            | _ => simp [Ob.isCons] at hcy'
          | _ => simp [Ob.isCons] at hcy
      · have hr1 := Lib.hid ((owp_ne h0).symm.trans hr)
        have hn : (owp x y y' != 0) = true := by rw [bne_iff_ne]; exact h0
        have hfin : k + m ≥ hi := by omega
        clear hA hA' hr h0 hy hy' L6
        go_wp2_with fail
        refine C1.out.mono ?_
        rintro e w1 ⟨rfl, hb1⟩
        have R1 := Lib.hid (hR.out.below hb1)
        clear hb1 hR
        go_wp2
        go_ret
        exact ⟨ret_int hr1.out, R1.out.more hfin⟩
end Go.Proofs.YtfnkmgipjemkdaaGreatDoor

/- The program's Compare and Equal. -/
namespace Go.Proofs.YtfnkmgipjemkdaaGreatDoor
open Go Go.RowKit
set_option linter.unusedVariables false

/-- Three blocks made one after another: two objects and a comparison. -/
theorem three (a a' : Ob) (p p' : Value) (w : World) (S : Nat → Prop) (hS : In S w) (ha : Pair w S a p) (ha' : Pair w S a' p') (x : Bool) :
    ∃ W, W = ((w.alloc (.cells (cellsO a p).toArray 31)).alloc (.cells (cellsO a' p').toArray 31)).alloc (.cells #[.bool x, .int .i64 0, .map none] 66) ∧
      Below w.heap.size w W ∧ W.heap.size = w.heap.size + 3 ∧ At W (fun b => S b ∨ b = w.heap.size ∨ b = w.heap.size + 1) a w.heap.size 0 p ∧ At W (fun b => S b ∨ b = w.heap.size ∨ b = w.heap.size + 1) a' (w.heap.size + 1) 0 p' ∧ CmpAt W (w.heap.size + 2) x 0 := by
  refine ⟨_, rfl, ?_⟩
  have hb : Below w.heap.size w (((w.alloc (.cells (cellsO a p).toArray 31)).alloc (.cells (cellsO a' p').toArray 31)).alloc (.cells #[.bool x, .int .i64 0, .map none] 66)) :=
    Below.alloc (Below.alloc (Below.alloc (Below.refl _ _) (Nat.le_refl _) _) (by simp) _) (by simp; omega) _
  have h0 : (((w.alloc (.cells (cellsO a p).toArray 31)).alloc (.cells (cellsO a' p').toArray 31)).alloc (.cells #[.bool x, .int .i64 0, .map none] 66)).heap[w.heap.size]? = some (.cells (cellsO a p).toArray 31 (0, 0)) := by
    rw [Below.heap_alloc _ _ _ (by simp; omega)]; exact heap_alloc2_old w _ _
  have h1 : (((w.alloc (.cells (cellsO a p).toArray 31)).alloc (.cells (cellsO a' p').toArray 31)).alloc (.cells #[.bool x, .int .i64 0, .map none] 66)).heap[w.heap.size + 1]? = some (.cells (cellsO a' p').toArray 31 (0, 0)) := by
    rw [Below.heap_alloc _ _ _ (by simp)]; exact heap_alloc2_new w _ _
  refine ⟨hb, by simp, ⟨⟨.inr (.inl rfl), _, _, h0⟩, fun j u hj => ?_, (ha.below hS hb).more fun _ h => .inl h⟩, ⟨⟨.inr (.inr rfl), _, _, h1⟩, fun j u hj => ?_, (ha'.below hS hb).more fun _ h => .inl h⟩, heap_new_at (by simp)⟩
  · rw [Nat.zero_add, cell_of_row _ _ _ _ _ _ h0, ← hj]; simp
  · rw [Nat.zero_add, cell_of_row _ _ _ _ _ _ h1, ← hj]; simp
/-- What order returns on them. -/
theorem orderTop (d : Nat) (hd : d ≤ 1000) (a a' : Ob) (p p' : Value) (w : World) (S : Nat → Prop) (hS : In S w) (ha : Pair w S a p) (ha' : Pair w S a' p') (hb : a.bd d) (hb' : a'.bd d) (hn : a.nodes ≤ 3000) (x : Bool) :
    Calls Tryz.prog 62 #[.pointer (some ⟨w.heap.size + 1 + 1, 0, none⟩), .pointer (some ⟨w.heap.size, 0, none⟩), .pointer (some ⟨w.heap.size + 1, 0, none⟩)] (((w.alloc (.cells (cellsO a p).toArray 31)).alloc (.cells (cellsO a' p').toArray 31)).alloc (.cells #[.bool x, .int .i64 0, .map none] 66))
      (fun e w' => e = .returned (.int .i64 (ordX x a a')) ∧ Below w.heap.size w w') := by
  obtain ⟨W, e, h1, h2, h3, h4, h5⟩ := three a a' p p' w S hS ha ha' x
  rw [← e]
  refine (orderO d hd a.nodes a a' w.heap.size 0 (w.heap.size + 1) 0 p p' W _ (w.heap.size + 2) x 0 (Nat.le_refl _) hb hb' h3 h4 (fun b hb => ?_) (fun h => ?_) h5 (by omega)).mono ?_
  · rcases hb with hb | rfl | rfl
    · have := hS b hb; omega
    · omega
    · omega
  · rcases h with h | h | h
    · have := hS _ h; omega
    · omega
    · omega
  · rintro e w' ⟨he, hr⟩
    exact ⟨he, hr.1.os.trans h1.os, hr.1.tape.trans h1.tape, hr.1.output.trans h1.output, Nat.le_trans h1.size hr.1.size, fun b hlt => (hr.1.block b (by omega) (fun e => by injection e with e; omega)).trans (h1.block b hlt)⟩
set_option maxHeartbeats 4000000 in
set_option maxRecDepth 100000 in
theorem compareP (d : Nat) (hd : d ≤ 1000) (a a' : Ob) (p p' : Value) (w : World) (S : Nat → Prop) (hS : In S w) (ha : Pair w S a p) (ha' : Pair w S a' p') (hb : a.bd d) (hb' : a'.bd d) (hn : a.nodes ≤ 3000) :
    Calls Tryz.prog 36 #[vO a p, vO a' p'] w (RetI w (ordO a a')) := by
  have call := Lib.hid (orderTop d hd a a' p p' w S hS ha ha' hb hb' hn false)
  obtain ⟨x0, x1, x2, x3, x4, x5, e⟩ := cells7 a p
  obtain ⟨y0, y1, y2, y3, y4, y5, e'⟩ := cells7 a' p'
  rw [e, e'] at call
  unfold vO
  rw [e, e']
  clear e e' ha ha' hb hb' hS hn
  go_enter Tryz.func36, Tryz.ntmps36
  go_wp2_with fail
  refine call.out.mono ?_
  rintro e w' ⟨rfl, hb⟩
  have HB := Lib.hid hb
  clear hb call
  go_wp2
  go_ret
  exact ⟨rfl, HB.out⟩
set_option maxHeartbeats 4000000 in
set_option maxRecDepth 100000 in
theorem equalP (d : Nat) (hd : d ≤ 1000) (a a' : Ob) (p p' : Value) (w : World) (S : Nat → Prop) (hS : In S w) (ha : Pair w S a p) (ha' : Pair w S a' p') (hb : a.bd d) (hb' : a'.bd d) (hn : a.nodes ≤ 3000) :
    Calls Tryz.prog 40 #[vO a p, vO a' p'] w (RetB w (decide (a = a'))) := by
  have call := Lib.hid (orderTop d hd a a' p p' w S hS ha ha' hb hb' hn true)
  obtain ⟨x0, x1, x2, x3, x4, x5, e⟩ := cells7 a p
  obtain ⟨y0, y1, y2, y3, y4, y5, e'⟩ := cells7 a' p'
  rw [e, e'] at call
  unfold vO
  rw [e, e']
  have hr : Hid ((eqI a a' == 0) = decide (a = a')) := by
    show _ = _
    unfold eqI
    by_cases h : a = a' <;> simp [h]
  have hx : Hid (ordX true a a' = eqI a a') := rfl
  rw [hx.out] at call
  rw [← hr.out]
  generalize eqI a a' = q at call ⊢
  clear hr hx e e' ha ha' hb hb' hS hn
  go_enter Tryz.func40, Tryz.ntmps40
  go_wp2_with fail
  refine call.out.mono ?_
  rintro e w' ⟨rfl, hb⟩
  have HB := Lib.hid hb
  clear hb call
  go_wp2
  go_ret
  exact ⟨rfl, HB.out⟩
end Go.Proofs.YtfnkmgipjemkdaaGreatDoor

/- The program's asNumber; two objects in boxes beside a result. -/
namespace Go.Proofs.YtfnkmgipjemkdaaGreatDoor
open Go Go.RowKit
set_option linter.unusedVariables false

/-- A number as a value. -/
def vQ (q : Rat) : Value := .agg #[.int .i64 1, .string (nt q), .string (dt q), .string ⟨#[]⟩, .string ⟨#[]⟩, .string ⟨#[]⟩, .slice none 0 0]
theorem vQ_eq (q : Rat) : vO (.num q) (.slice none 0 0) = vQ q := rfl
/-- The call returned a number. -/
def RetN (w : World) (q : Rat) (e : Ending) (w' : World) : Prop := e = .returned (vQ q) ∧ Below w.heap.size w w'
theorem RetO.num {w w' : World} {S : Nat → Prop} {q : Rat} {e : Ending} (h : RetO w S (.num q) e w') : RetN w q e w' := by
  obtain ⟨p, rfl, hp, hb⟩ := h
  have e : p = .slice none 0 0 := hp
  subst e
  exact ⟨rfl, hb⟩
theorem RetN.obj {w w' : World} {q : Rat} {e : Ending} (S : Nat → Prop) (h : RetN w q e w') : RetO w S (.num q) e w' := ⟨.slice none 0 0, h.1, rfl, h.2⟩
theorem ratN (s t : ByteArray) (w : World) (hs : s.size ≤ 400000000) (ht : t.size ≤ 400000000) : Calls Tryz.prog 11 #[.string s, .string t] w (RetN w (quo (LA s) (LA t))) :=
  (ratP s t w (fun _ => False) (fun _ h => h.elim) hs ht).mono fun _ _ h => h.num
theorem ratRN (s t : ByteArray) (w : World) (hs : s.size ≤ 300000000) (ht : t.size ≤ 300000000) : Calls Tryz.prog 15 #[.string s, .string t] w (RetN w (quo (LA s) (LA t))) :=
  (ratO s t w (fun _ => False) (fun _ h => h.elim) hs ht).mono fun _ _ h => h.num
theorem i64_small {n : Int} (h : -1000000 ≤ n ∧ n ≤ 1000000) : Hid (I64 n) := by show I64 n; unfold I64; omega
/-- A function returns the number that lies in its result's block. -/
theorem retN {fn : Func} {q : Tmp} {w0 w : World} {tmps : Array Value} {g : Nat} {x : Rat} {t : TypeId} {fr : Nat × Nat} {cs : Array Value}
    (h : fn.results = #[.cell q 31]) (hq : tmps.getD q undef = .pointer (some ⟨g, 0, none⟩)) (hg : w.heap[g]? = some (.cells cs t fr)) (hc : Value.agg cs = vQ x) (hb : Below w0.heap.size w0 w) :
    bodyPost Tryz.prog fn (RetN w0 x) Exit.ret ⟨tmps, []⟩ w := by
  have hs : cs.size = 7 := by unfold vQ at hc; injection hc with hc; rw [hc]; rfl
  exact retO h hq hg hs ⟨by rw [hc], hb⟩
/-- A store of a number into its block. -/
theorem storeN {ops : Array Oper} {rest : List Oper} {o : Oper} {a : Act} {w : World} {Q : Exit → Act → World → Prop} (hgd : o.guard = none) (x y : Operand) (ho : o.op = .store 31 x y)
    (g : Nat) (q : Rat) (hx : a.eval x = .pointer (some ⟨g, 0, none⟩)) (hy : a.eval y = vQ q)
    (t : TypeId) (old : Array Value) (hg : w.heap[g]? = some (.cells old t (0, 0))) (hold : old.size = 7)
    (h : wpList Tryz.prog ops Q rest (a.put o.dst undef) (w.setRow g #[.int .i64 1, .string (nt q), .string (dt q), .string ⟨#[]⟩, .string ⟨#[]⟩, .string ⟨#[]⟩, .slice none 0 0])) : wpList Tryz.prog ops Q (o :: rest) a w :=
  storeO hgd x y ho g _ hx hy t old hg hold (by simp) (by simp [Value.oneCell']) h
/-- Seven stores are one of a whole row. -/
theorem setRow7 {w : World} {g : Nat} {old : Array Value} {t : TypeId} (h : w.heap[g]? = some (.cells old t (0, 0))) (hs : old.size = 7) (a0 a1 a2 a3 a4 a5 a6 : Value) :
    ((((((w.setCell ⟨g, 0, none⟩ a0).setCell ⟨g, 1, none⟩ a1).setCell ⟨g, 2, none⟩ a2).setCell ⟨g, 3, none⟩ a3).setCell ⟨g, 4, none⟩ a4).setCell ⟨g, 5, none⟩ a5).setCell ⟨g, 6, none⟩ a6 = w.setRow g #[a0, a1, a2, a3, a4, a5, a6] := by
  obtain ⟨old⟩ := old
  match old, hs with
  | [o0, o1, o2, o3, o4, o5, o6], _ =>
    rw [setCell_eq_setRow _ g 0 _ t _ a0 h]
    have h1 := setRow_heap w g _ (#[o0, o1, o2, o3, o4, o5, o6].setIfInBounds 0 a0) _ _ h
    rw [setCell_eq_setRow _ g 1 _ t _ a1 h1, setRow_setRow]
    have h2 := setRow_heap w g _ ((#[o0, o1, o2, o3, o4, o5, o6].setIfInBounds 0 a0).setIfInBounds 1 a1) _ _ h
    rw [setCell_eq_setRow _ g 2 _ t _ a2 h2, setRow_setRow]
    have h3 := setRow_heap w g _ (((#[o0, o1, o2, o3, o4, o5, o6].setIfInBounds 0 a0).setIfInBounds 1 a1).setIfInBounds 2 a2) _ _ h
    rw [setCell_eq_setRow _ g 3 _ t _ a3 h3, setRow_setRow]
    have h4 := setRow_heap w g _ ((((#[o0, o1, o2, o3, o4, o5, o6].setIfInBounds 0 a0).setIfInBounds 1 a1).setIfInBounds 2 a2).setIfInBounds 3 a3) _ _ h
    rw [setCell_eq_setRow _ g 4 _ t _ a4 h4, setRow_setRow]
    have h5 := setRow_heap w g _ (((((#[o0, o1, o2, o3, o4, o5, o6].setIfInBounds 0 a0).setIfInBounds 1 a1).setIfInBounds 2 a2).setIfInBounds 3 a3).setIfInBounds 4 a4) _ _ h
    rw [setCell_eq_setRow _ g 5 _ t _ a5 h5, setRow_setRow]
    have h6 := setRow_heap w g _ ((((((#[o0, o1, o2, o3, o4, o5, o6].setIfInBounds 0 a0).setIfInBounds 1 a1).setIfInBounds 2 a2).setIfInBounds 3 a3).setIfInBounds 4 a4).setIfInBounds 5 a5) _ _ h
    rw [setCell_eq_setRow _ g 6 _ t _ a6 h6, setRow_setRow]
    rfl
/-- The cells and the marks of a row of seven. -/
theorem row7 {w : World} {g : Nat} {t : TypeId} {a0 a1 a2 a3 a4 a5 a6 : Value} (h : w.heap[g]? = some (.cells #[a0, a1, a2, a3, a4, a5, a6] t (0, 0))) :
    (w.cell? ⟨g, 0, none⟩ = some a0 ∧ w.cell? ⟨g, 1, none⟩ = some a1 ∧ w.cell? ⟨g, 2, none⟩ = some a2 ∧ w.cell? ⟨g, 3, none⟩ = some a3 ∧ w.cell? ⟨g, 4, none⟩ = some a4 ∧ w.cell? ⟨g, 5, none⟩ = some a5 ∧ w.cell? ⟨g, 6, none⟩ = some a6) ∧
      (∀ j, w.frozen? ⟨g, j, none⟩ = false) := by
  refine ⟨⟨?_, ?_, ?_, ?_, ?_, ?_, ?_⟩, fun j => by simp [World.frozen?, h]⟩
  all_goals (rw [cell_of_row _ _ _ _ _ _ h]; rfl)

set_option maxHeartbeats 1000000 in
set_option maxRecDepth 100000 in
theorem asNumP (a : Ob) (p : Value) (w : World) (hp : ∀ q, a = .num q → p = .slice none 0 0) (ht : Tab w) :
    Calls Tryz.prog 69 #[vO a p] w (RetN w a.fix) := by
  have HT := Lib.hid ht
  clear ht
  have hz : Hid (∀ w, Tab w → Calls Tryz.prog 13 #[.int .i64 0] w (RetN w 0)) := fun w ht =>
    (intP 0 w (fun _ => False) (i64_small (by omega)) ht).mono fun _ _ h => RetO.num h
  by_cases hk : (fO a).1 = 1
  · cases a with
    | num q =>
      obtain rfl := hp q rfl
      rw [vQ_eq]
      show Calls _ _ _ _ (RetN w q)
      unfold vQ
      clear hk hp hz
      go_enter Tryz.func69, Tryz.ntmps69
      go_wp2_with fail
      exact retN rfl rfl (heap_alloc2_new w _ _) rfl (Below.alloc (Below.alloc (Below.refl _ _) (Nat.le_refl _) _) (by simp) _)
    | _ => simp [fO] at hk
  · have hf : a.fix = 0 := by cases a <;> first | rfl | (exact absurd rfl hk)
    rw [hf]
    have e := cellsO_f a p
    unfold vO
    rw [e]
    have hn : ((fO a).1 != 1) = true := by rw [bne_iff_ne]; exact hk
    clear e hf hk hp
    generalize (fO a).1 = k at hn ⊢
    generalize (fO a).2 = y at ⊢
    obtain ⟨s1, s2, s3, s4, s5⟩ := y
    go_enter Tryz.func69, Tryz.ntmps69
    go_wp2_with fail
    have hb0 : Below w.heap.size w ((w.alloc (.cells #[.int .i64 k, .string s1, .string s2, .string s3, .string s4, .string s5, p] 31)).alloc (.cells #[.int .i64 0, .string ⟨#[]⟩, .string ⟨#[]⟩, .string ⟨#[]⟩, .string ⟨#[]⟩, .string ⟨#[]⟩, .slice none 0 0] 31)) := Below.alloc (Below.alloc (Below.refl _ _) (Nat.le_refl _) _) (by simp) _
    have hg0 := heap_alloc2_new w (.cells #[.int .i64 k, .string s1, .string s2, .string s3, .string s4, .string s5, p] 31) (.cells #[.int .i64 0, .string ⟨#[]⟩, .string ⟨#[]⟩, .string ⟨#[]⟩, .string ⟨#[]⟩, .string ⟨#[]⟩, .slice none 0 0] 31)
    refine (hz.out _ (HT.out.below hb0)).mono ?_
    rintro e w1 ⟨rfl, hb1⟩
    have hg1 := Lib.hid ((hb1.block (w.heap.size + 1) (by simp)).trans hg0)
    have hbw := Lib.hid (hb0.trans (hb1.mono hb0.size))
    clear hb0 hb1 hg0
    go_wp2_with (refine storeN rfl (.tmp 2) (.tmp 6) rfl (w.heap.size + 1) 0 rfl rfl _ _ hg1.out rfl ?_)
    exact retN (q := 2) (g := w.heap.size + 1) rfl rfl (setRow_heap _ _ _ _ _ _ hg1.out) rfl (below_setRowO hbw.out (by omega) _)
end Go.Proofs.YtfnkmgipjemkdaaGreatDoor

/- The program's Product. -/
namespace Go.Proofs.YtfnkmgipjemkdaaGreatDoor
open Go Go.RowKit
set_option linter.unusedVariables false

/-- Seven cells. -/
abbrev row (a0 a1 a2 a3 a4 a5 a6 : Value) : Array Value := #[a0, a1, a2, a3, a4, a5, a6]
/-- Two objects in their boxes, a result beside them. -/
structure Three (w W : World) (x y : Array Value) : Prop where
  b0 : W.heap[w.heap.size]? = some (.cells x 31 (0, 0))
  b1 : W.heap[w.heap.size + 1]? = some (.cells y 31 (0, 0))
  b2 : ∃ z : Array Value, z.size = 7 ∧ W.heap[w.heap.size + 1 + 1]? = some (.cells z 31 (0, 0))
  bel : Below w.heap.size w W
  size : w.heap.size + 3 ≤ W.heap.size
theorem Three.new (w : World) (x y z : Array Value) (hz : z.size = 7) : Three w (((w.alloc (.cells x 31)).alloc (.cells y 31)).alloc (.cells z 31)) x y := by
  refine ⟨?_, ?_, ⟨z, hz, heap_new_at (by simp)⟩, Below.alloc (Below.alloc (Below.alloc (Below.refl _ _) (Nat.le_refl _) _) (by simp) _) (by simp; omega) _, by simp⟩
  · rw [Below.heap_alloc _ _ _ (by simp; omega)]; exact heap_alloc2_old w _ _
  · rw [Below.heap_alloc _ _ _ (by simp)]; exact heap_alloc2_new w _ _
theorem Three.below {w W W' : World} {x y : Array Value} (h : Three w W x y) (hb : Below W.heap.size W W') : Three w W' x y := by
  have := h.size
  obtain ⟨z, hz, h2⟩ := h.b2
  exact ⟨(hb.block _ (by omega)).trans h.b0, (hb.block _ (by omega)).trans h.b1, ⟨z, hz, (hb.block _ (by omega)).trans h2⟩, h.bel.trans (hb.mono (by omega)), Nat.le_trans h.size hb.size⟩
/-- Both objects are numbers now. -/
theorem Three.set {w W : World} {x y : Array Value} (h : Three w W x y) (hx : x.size = 7) (hy : y.size = 7) (a0 a1 a2 a3 a4 a5 a6 b0 b1 b2 b3 b4 b5 b6 : Value) :
    Three w (((((((((((((((W.setCell ⟨w.heap.size, 0, none⟩ a0).setCell ⟨w.heap.size, 1, none⟩ a1).setCell ⟨w.heap.size, 2, none⟩ a2).setCell ⟨w.heap.size, 3, none⟩ a3).setCell ⟨w.heap.size, 4, none⟩ a4).setCell ⟨w.heap.size, 5, none⟩ a5).setCell ⟨w.heap.size, 6, none⟩ a6).setCell
      ⟨w.heap.size + 1, 0, none⟩ b0).setCell ⟨w.heap.size + 1, 1, none⟩ b1).setCell ⟨w.heap.size + 1, 2, none⟩ b2).setCell ⟨w.heap.size + 1, 3, none⟩ b3).setCell ⟨w.heap.size + 1, 4, none⟩ b4).setCell ⟨w.heap.size + 1, 5, none⟩ b5).setCell ⟨w.heap.size + 1, 6, none⟩ b6)) #[a0, a1, a2, a3, a4, a5, a6] #[b0, b1, b2, b3, b4, b5, b6] := by
  rw [setRow7 h.b0 hx]
  have h1 : (W.setRow w.heap.size #[a0, a1, a2, a3, a4, a5, a6]).heap[w.heap.size + 1]? = _ := (setRow_other _ _ _ _ (by omega)).trans h.b1
  rw [setRow7 h1 hy]
  obtain ⟨z, hz, h2⟩ := h.b2
  refine ⟨?_, setRow_heap _ _ _ _ _ _ h1, ⟨z, hz, ?_⟩, below_setRowO (below_setRowO h.bel (Nat.le_refl _) _) (by omega) _, by rw [size_setRow, size_setRow]; exact h.size⟩
  · rw [setRow_other _ _ _ _ (by omega)]; exact setRow_heap _ _ _ _ _ _ h.b0
  · rw [setRow_other _ _ _ _ (by omega), setRow_other _ _ _ _ (by omega)]; exact h2
theorem row7z {w : World} {g : Nat} {t : TypeId} {z : Array Value} (hz : z.size = 7) (h : w.heap[g]? = some (.cells z t (0, 0))) :
    ∃ a0 a1 a2 a3 a4 a5 a6, (w.cell? ⟨g, 0, none⟩ = some a0 ∧ w.cell? ⟨g, 1, none⟩ = some a1 ∧ w.cell? ⟨g, 2, none⟩ = some a2 ∧ w.cell? ⟨g, 3, none⟩ = some a3 ∧ w.cell? ⟨g, 4, none⟩ = some a4 ∧ w.cell? ⟨g, 5, none⟩ = some a5 ∧ w.cell? ⟨g, 6, none⟩ = some a6) ∧
      (∀ j, w.frozen? ⟨g, j, none⟩ = false) := by
  obtain ⟨z⟩ := z
  match z, hz with
  | [a0, a1, a2, a3, a4, a5, a6], _ => exact ⟨a0, a1, a2, a3, a4, a5, a6, row7 h⟩
/-- The result is stored and returned. -/
theorem Three.ret {w W : World} {x y : Array Value} (T : Three w W x y) (q : Rat) {fn : Func} {r : Tmp} {tmps : Array Value} (h : fn.results = #[.cell r 31]) (hr : tmps.getD r undef = .pointer (some ⟨w.heap.size + 1 + 1, 0, none⟩)) :
    bodyPost Tryz.prog fn (RetN w q) Exit.ret ⟨tmps, []⟩ (((((((W.setCell ⟨w.heap.size + 1 + 1, 0, none⟩ (.int .i64 1)).setCell ⟨w.heap.size + 1 + 1, 1, none⟩ (.string (nt q))).setCell ⟨w.heap.size + 1 + 1, 2, none⟩ (.string (dt q))).setCell ⟨w.heap.size + 1 + 1, 3, none⟩ (.string ⟨#[]⟩)).setCell ⟨w.heap.size + 1 + 1, 4, none⟩ (.string ⟨#[]⟩)).setCell ⟨w.heap.size + 1 + 1, 5, none⟩ (.string ⟨#[]⟩)).setCell ⟨w.heap.size + 1 + 1, 6, none⟩ (.slice none 0 0)) := by
  obtain ⟨z, hz, h2⟩ := T.b2
  rw [setRow7 h2 hz]
  exact retN h hr (setRow_heap _ _ _ _ _ _ h2) rfl (below_setRowO T.bel (by omega) _)

set_option maxHeartbeats 8000000 in
set_option maxRecDepth 100000 in
theorem productP (d : Nat) (hd : d ≤ 1000) (a a' : Ob) (p p' : Value) (w : World) (S : Nat → Prop) (hp : Pair w S a p) (hp' : Pair w S a' p') (hb : Bd d a.fix) (hb' : Bd d a'.fix) (ht : Tab w) :
    Calls Tryz.prog 43 #[vO a p, vO a' p'] w (RetN w (a.fix * a'.fix)) := by
  have HT := Lib.hid ht
  have A1 : Hid (∀ wd, Tab wd → Calls Tryz.prog 69 #[vO a p] wd (RetN wd a.fix)) := fun wd h => asNumP a p wd (fun q e => by subst e; exact hp) h
  have A2 : Hid (∀ wd, Tab wd → Calls Tryz.prog 69 #[vO a' p'] wd (RetN wd a'.fix)) := fun wd h => asNumP a' p' wd (fun q e => by subst e; exact hp') h
  clear ht hp hp'
  generalize a.fix = x at A1 hb ⊢
  generalize a'.fix = y at A2 hb' ⊢
  obtain ⟨x0, x1, x2, x3, x4, x5, e⟩ := cells7 a p
  obtain ⟨y0, y1, y2, y3, y4, y5, e'⟩ := cells7 a' p'
  unfold vO at A1 A2
  rw [e] at A1
  rw [e'] at A2
  unfold vO
  rw [e, e']
  clear e e'
  go_enter Tryz.func43, Tryz.ntmps43
  go_wp2_with fail
  have T0 := Three.new w #[x0, x1, x2, x3, x4, x5, p] #[y0, y1, y2, y3, y4, y5, p'] #[.int .i64 0, .string ⟨#[]⟩, .string ⟨#[]⟩, .string ⟨#[]⟩, .string ⟨#[]⟩, .string ⟨#[]⟩, .slice none 0 0] rfl
  generalize ((w.alloc (.cells #[x0, x1, x2, x3, x4, x5, p] 31)).alloc (.cells #[y0, y1, y2, y3, y4, y5, p'] 31)).alloc (.cells #[.int .i64 0, .string ⟨#[]⟩, .string ⟨#[]⟩, .string ⟨#[]⟩, .string ⟨#[]⟩, .string ⟨#[]⟩, .slice none 0 0] 31) = W at T0 ⊢
  go_upto_region 1 with fail
  go_cut [4] (fun s4 wx => s4 = .pointer (some ⟨w.heap.size + 1 + 1, 0, none⟩) ∧ Hid (Three w wx #[.int .i64 1, .string (nt x), .string (dt x), .string ⟨#[]⟩, .string ⟨#[]⟩, .string ⟨#[]⟩, .slice none 0 0] #[.int .i64 1, .string (nt y), .string (dt y), .string ⟨#[]⟩, .string ⟨#[]⟩, .string ⟨#[]⟩, .slice none 0 0]))
  case first =>
    have hB0 : Below W.heap.size W W.drew := (Below.refl _ _).drew
    obtain ⟨⟨c0, c1, c2, c3, c4, c5, c6⟩, f0⟩ := row7 T0.b0
    obtain ⟨⟨d0, d1, d2, d3, d4, d5, d6⟩, f1⟩ := row7 T0.b1
    have HB : Hid (∀ W', Below W.heap.size W W' → Tab W') := fun W' h => HT.out.below (T0.below h).bel
    go_region_with (first
      | (go_at_call_of 69 (Value.agg #[x0, x1, x2, x3, x4, x5, p]); refine (A1.out _ (HB.out _ ‹Below W.heap.size W _›)).mono ?_; rintro e w3 ⟨rfl, hb3⟩; have hB3 := chain2 ‹Below W.heap.size W _› hb3 (Nat.le_refl _); obtain ⟨⟨c0, c1, c2, c3, c4, c5, c6⟩, f0⟩ := row7 (T0.below hB3).b0; obtain ⟨⟨d0, d1, d2, d3, d4, d5, d6⟩, f1⟩ := row7 (T0.below hB3).b1; unfold vQ)
      | (go_at_call_of 69 (Value.agg #[y0, y1, y2, y3, y4, y5, p']); refine (A2.out _ (HB.out _ ‹Below W.heap.size W _›)).mono ?_; rintro e w4 ⟨rfl, hb4⟩; have hB4 := chain2 ‹Below W.heap.size W _› hb4 (Nat.le_refl _); obtain ⟨⟨c0, c1, c2, c3, c4, c5, c6⟩, f0⟩ := row7 (T0.below hB4).b0; obtain ⟨⟨d0, d1, d2, d3, d4, d5, d6⟩, f1⟩ := row7 (T0.below hB4).b1; unfold vQ))
    all_goals (go_wp2_with fail; go_meet; exact ⟨rfl, Three.set (T0.below ‹Below W.heap.size W _›) rfl rfl _ _ _ _ _ _ _ _ _ _ _ _ _ _⟩)
  case rest =>
    obtain ⟨rfl, T⟩ := hcut
    have b1 := bd_nt hb
    have b2 := bd_dt hb
    have b3 := bd_nt hb'
    have b4 := bd_dt hb'
    have hv : Hid (quo (LA (BA (text (val (LA (nt x)) * val (LA (nt y)))))) (LA (BA (text (val (LA (dt x)) * val (LA (dt y)))))) = x * y) := by
      show _ = _
      rw [val_nt, val_dt, val_nt, val_dt, quo_text, q_mul]
    have s1 : (BA (text (val (LA (nt x)) * val (LA (nt y))))).size ≤ 3000 := by
      rw [val_nt, val_nt, BA_size]
      refine Nat.le_trans (text_length (k := d + d) ?_) (by omega)
      rw [Int.natAbs_mul]
      exact lt_pow_mul hb.1 hb'.1
    have s2 : (BA (text (val (LA (dt x)) * val (LA (dt y))))).size ≤ 3000 := by
      rw [val_dt, val_dt, BA_size]
      refine Nat.le_trans (text_length (k := d + d) ?_) (by omega)
      rw [Int.natAbs_mul]
      exact lt_pow_mul hb.2 hb'.2
    have RN : Hid (∀ W, Calls Tryz.prog 11 #[.string (BA (text (val (LA (nt x)) * val (LA (nt y))))), .string (BA (text (val (LA (dt x)) * val (LA (dt y)))))] W (RetN W (x * y))) := fun W => by
      rw [← hv.out]; exact ratN _ _ _ (by omega) (by omega)
    clear hb hb' A1 A2 T0 hv s1 s2
    generalize nt x = nx at b1 T RN
    generalize dt x = dx at b2 T RN
    generalize nt y = ny at b3 T RN
    generalize dt y = dy at b4 T RN
    obtain ⟨⟨_, c1, c2, _, _, _, _⟩, _⟩ := row7 T.out.b0
    obtain ⟨⟨_, d1, d2, _, _, _, _⟩, _⟩ := row7 T.out.b1
    have hB0 : Below wc.heap.size wc wc.drew := (Below.refl _ _).drew
    have n1 : ¬ w.heap.size + 1 + 1 = w.heap.size := by omega
    have n2 : ¬ w.heap.size + 1 + 1 = w.heap.size + 1 := by omega
    go_wp2_with fail
    go_region_held3 (fun W' => W'.cell? ⟨w.heap.size, 1, none⟩ = some (.string nx) ∧ W'.cell? ⟨w.heap.size, 2, none⟩ = some (.string dx) ∧ W'.cell? ⟨w.heap.size + 1, 1, none⟩ = some (.string ny) ∧ W'.cell? ⟨w.heap.size + 1, 2, none⟩ = some (.string dy)) (go_keep)
      (first
        | (go_at_call 72; refine (multiply_any _ _ _ (by omega) (by omega)).mono ?_; rintro e w3 ⟨rfl, hb3⟩; have hB3 := chain2 ‹Below wc.heap.size wc _› hb3 (Nat.le_refl _); obtain ⟨⟨_, c1, c2, _, _, _, _⟩, _⟩ := row7 (T.out.below hB3).b0; obtain ⟨⟨_, d1, d2, _, _, _, _⟩, _⟩ := row7 (T.out.below hB3).b1)
        | (go_at_call 11; refine (RN.out _).mono ?_; rintro e w4 ⟨rfl, hb4⟩; have hB4 := chain2 ‹Below wc.heap.size wc _› hb4 (Nat.le_refl _); obtain ⟨⟨_, c1, c2, _, _, _, _⟩, _⟩ := row7 (T.out.below hB4).b0; obtain ⟨⟨_, d1, d2, _, _, _, _⟩, _⟩ := row7 (T.out.below hB4).b1; obtain ⟨z, hz, hz2⟩ := (T.out.below hB4).b2; obtain ⟨z0, z1, z2, z3, z4, z5, z6, ⟨q0, q1, q2, q3, q4, q5, q6⟩, f2⟩ := row7z hz hz2; clear hz hz2; unfold vQ))
    all_goals go_wp2
    all_goals exact Three.ret (T.out.below ‹Below wc.heap.size wc _›) _ rfl rfl
end Go.Proofs.YtfnkmgipjemkdaaGreatDoor

/- The program's Sum. -/
namespace Go.Proofs.YtfnkmgipjemkdaaGreatDoor
open Go Go.RowKit
set_option linter.unusedVariables false

theorem q_add_same {x y : Rat} (h : x.den = y.den) : Rat.divInt (x.num + y.num) (x.den : Int) = x + y := by
  rw [← q_add, ← h, ← Int.add_mul]
  rw [Rat.divInt_mul_right (by exact_mod_cast x.den_nz)]
set_option maxHeartbeats 8000000 in
set_option maxRecDepth 100000 in
theorem sumP (d : Nat) (hd : d ≤ 1000) (a a' : Ob) (p p' : Value) (w : World) (S : Nat → Prop) (hp : Pair w S a p) (hp' : Pair w S a' p') (hb : Bd d a.fix) (hb' : Bd d a'.fix) (ht : Tab w) :
    Calls Tryz.prog 41 #[vO a p, vO a' p'] w (RetN w (a.fix + a'.fix)) := by
  have HT := Lib.hid ht
  have A1 : Hid (∀ wd, Tab wd → Calls Tryz.prog 69 #[vO a p] wd (RetN wd a.fix)) := fun wd h => asNumP a p wd (fun q e => by subst e; exact hp) h
  have A2 : Hid (∀ wd, Tab wd → Calls Tryz.prog 69 #[vO a' p'] wd (RetN wd a'.fix)) := fun wd h => asNumP a' p' wd (fun q e => by subst e; exact hp') h
  clear ht hp hp'
  generalize a.fix = x at A1 hb ⊢
  generalize a'.fix = y at A2 hb' ⊢
  obtain ⟨x0, x1, x2, x3, x4, x5, e⟩ := cells7 a p
  obtain ⟨y0, y1, y2, y3, y4, y5, e'⟩ := cells7 a' p'
  unfold vO at A1 A2
  rw [e] at A1
  rw [e'] at A2
  unfold vO
  rw [e, e']
  clear e e'
  go_enter Tryz.func41, Tryz.ntmps41
  go_wp2_with fail
  have T0 := Three.new w #[x0, x1, x2, x3, x4, x5, p] #[y0, y1, y2, y3, y4, y5, p'] #[.int .i64 0, .string ⟨#[]⟩, .string ⟨#[]⟩, .string ⟨#[]⟩, .string ⟨#[]⟩, .string ⟨#[]⟩, .slice none 0 0] rfl
  generalize ((w.alloc (.cells #[x0, x1, x2, x3, x4, x5, p] 31)).alloc (.cells #[y0, y1, y2, y3, y4, y5, p'] 31)).alloc (.cells #[.int .i64 0, .string ⟨#[]⟩, .string ⟨#[]⟩, .string ⟨#[]⟩, .string ⟨#[]⟩, .string ⟨#[]⟩, .slice none 0 0] 31) = W at T0 ⊢
  go_upto_region 1 with fail
  go_cut [4] (fun s4 wx => s4 = .pointer (some ⟨w.heap.size + 1 + 1, 0, none⟩) ∧ Hid (Three w wx #[.int .i64 1, .string (nt x), .string (dt x), .string ⟨#[]⟩, .string ⟨#[]⟩, .string ⟨#[]⟩, .slice none 0 0] #[.int .i64 1, .string (nt y), .string (dt y), .string ⟨#[]⟩, .string ⟨#[]⟩, .string ⟨#[]⟩, .slice none 0 0]))
  case first =>
    have hB0 : Below W.heap.size W W.drew := (Below.refl _ _).drew
    obtain ⟨⟨c0, c1, c2, c3, c4, c5, c6⟩, f0⟩ := row7 T0.b0
    obtain ⟨⟨d0, d1, d2, d3, d4, d5, d6⟩, f1⟩ := row7 T0.b1
    have HB : Hid (∀ W', Below W.heap.size W W' → Tab W') := fun W' h => HT.out.below (T0.below h).bel
    go_region_with (first
      | (go_at_call_of 69 (Value.agg #[x0, x1, x2, x3, x4, x5, p]); refine (A1.out _ (HB.out _ ‹Below W.heap.size W _›)).mono ?_; rintro e w3 ⟨rfl, hb3⟩; have hB3 := chain2 ‹Below W.heap.size W _› hb3 (Nat.le_refl _); obtain ⟨⟨c0, c1, c2, c3, c4, c5, c6⟩, f0⟩ := row7 (T0.below hB3).b0; obtain ⟨⟨d0, d1, d2, d3, d4, d5, d6⟩, f1⟩ := row7 (T0.below hB3).b1; unfold vQ)
      | (go_at_call_of 69 (Value.agg #[y0, y1, y2, y3, y4, y5, p']); refine (A2.out _ (HB.out _ ‹Below W.heap.size W _›)).mono ?_; rintro e w4 ⟨rfl, hb4⟩; have hB4 := chain2 ‹Below W.heap.size W _› hb4 (Nat.le_refl _); obtain ⟨⟨c0, c1, c2, c3, c4, c5, c6⟩, f0⟩ := row7 (T0.below hB4).b0; obtain ⟨⟨d0, d1, d2, d3, d4, d5, d6⟩, f1⟩ := row7 (T0.below hB4).b1; unfold vQ))
    all_goals (go_wp2_with fail; go_meet; exact ⟨rfl, Three.set (T0.below ‹Below W.heap.size W _›) rfl rfl _ _ _ _ _ _ _ _ _ _ _ _ _ _⟩)
  case rest =>
    obtain ⟨rfl, T⟩ := hcut
    have b1 := bd_nt hb
    have b2 := bd_dt hb
    have b3 := bd_nt hb'
    have b4 := bd_dt hb'
    have hB0 : Below wc.heap.size wc wc.drew := (Below.refl _ _).drew
    have n1 : ¬ w.heap.size + 1 + 1 = w.heap.size := by omega
    have n2 : ¬ w.heap.size + 1 + 1 = w.heap.size + 1 := by omega
    obtain ⟨⟨_, c1, c2, _, _, _, _⟩, _⟩ := row7 T.out.b0
    obtain ⟨⟨_, d1, d2, _, _, _, _⟩, _⟩ := row7 T.out.b1
    have m1 := lt_pow_mul hb.1 hb'.2
    have m2 := lt_pow_mul hb'.1 hb.2
    have m3 := lt_pow_mul hb.2 hb'.2
    have hp2 : 10 ^ (d + d + 1) = 10 ^ (d + d) * 10 := Nat.pow_succ ..
    cases hd2 : ((dt x).toList == (dt y).toList) with
    | true =>
      have hden := of_decide_eq_true (dt_beq (x := x) (y := y) ▸ hd2)
      have hv : Hid (quo (LA (BA (text (val (LA (nt x)) + val (LA (nt y)))))) (LA (dt x)) = x + y) := by
        show quo _ (LA (BA (text (x.den : Int)))) = _
        rw [val_nt, val_nt, quo_text, q_add_same hden]
      have s1 : (BA (text (val (LA (nt x)) + val (LA (nt y))))).size ≤ 3000 := by
        rw [val_nt, val_nt, BA_size]
        refine Nat.le_trans (text_length (k := d + 1) ?_) (by omega)
        have hp : 10 ^ (d + 1) = 10 ^ d * 10 := Nat.pow_succ ..
        have h1 := hb.1
        have h2 := hb'.1
        have h3 := Int.natAbs_add_le x.num y.num
        omega
      have RN : Hid (∀ W, Calls Tryz.prog 11 #[.string (BA (text (val (LA (nt x)) + val (LA (nt y))))), .string (dt x)] W (RetN W (x + y))) := fun W => by
        rw [← hv.out]; exact ratN _ _ _ (by omega) (by omega)
      clear hb hb' A1 A2 T0 hv s1 m1 m2 m3 hp2 hden
      generalize nt x = nx at *
      generalize dt x = dx at *
      generalize nt y = ny at *
      generalize dt y = dy at *
      go_wp2_with fail
      go_region_held3 (fun W' => W'.cell? ⟨w.heap.size, 1, none⟩ = some (.string nx) ∧ W'.cell? ⟨w.heap.size, 2, none⟩ = some (.string dx) ∧ W'.cell? ⟨w.heap.size + 1, 1, none⟩ = some (.string ny)) (go_keep)
        (first
          | (go_at_call 71; refine (add_any _ _ _ (by omega) (by omega)).mono ?_; rintro e w3 ⟨rfl, hb3⟩; have hB3 := chain2 ‹Below wc.heap.size wc _› hb3 (Nat.le_refl _); obtain ⟨⟨_, c1, c2, _, _, _, _⟩, _⟩ := row7 (T.out.below hB3).b0; obtain ⟨⟨_, d1, d2, _, _, _, _⟩, _⟩ := row7 (T.out.below hB3).b1)
          | (go_at_call 11; refine (RN.out _).mono ?_; rintro e w4 ⟨rfl, hb4⟩; have hB4 := chain2 ‹Below wc.heap.size wc _› hb4 (Nat.le_refl _); obtain ⟨⟨_, c1, c2, _, _, _, _⟩, _⟩ := row7 (T.out.below hB4).b0; obtain ⟨⟨_, d1, d2, _, _, _, _⟩, _⟩ := row7 (T.out.below hB4).b1; obtain ⟨z, hz, hz2⟩ := (T.out.below hB4).b2; obtain ⟨z0, z1, z2, z3, z4, z5, z6, ⟨q0, q1, q2, q3, q4, q5, q6⟩, f2⟩ := row7z hz hz2; clear hz hz2; unfold vQ))
      all_goals go_wp2
      all_goals exact Three.ret (T.out.below ‹Below wc.heap.size wc _›) _ rfl rfl
    | false =>
      have s1 : (BA (text (val (LA (nt x)) * val (LA (dt y))))).size ≤ 3000 := by
        rw [val_nt, val_dt, BA_size]
        refine Nat.le_trans (text_length (k := d + d) ?_) (by omega)
        rw [Int.natAbs_mul]
        exact m1
      have s2 : (BA (text (val (LA (nt y)) * val (LA (dt x))))).size ≤ 3000 := by
        rw [val_nt, val_dt, BA_size]
        refine Nat.le_trans (text_length (k := d + d) ?_) (by omega)
        rw [Int.natAbs_mul]
        exact m2
      have s3 : (BA (text (val (LA (dt x)) * val (LA (dt y))))).size ≤ 3000 := by
        rw [val_dt, val_dt, BA_size]
        refine Nat.le_trans (text_length (k := d + d) ?_) (by omega)
        rw [Int.natAbs_mul]
        exact m3
      have hA : Hid (∀ W, Calls Tryz.prog 71 #[.string (BA (text (val (LA (nt x)) * val (LA (dt y))))), .string (BA (text (val (LA (nt y)) * val (LA (dt x)))))] W (RetS W (x.num * (y.den : Int) + y.num * (x.den : Int)))) := fun W => by
        have h := add_any (BA (text (val (LA (nt x)) * val (LA (dt y))))) (BA (text (val (LA (nt y)) * val (LA (dt x))))) W (by omega) (by omega)
        rw [LA_BA, LA_BA, val_text, val_text, val_nt, val_dt, val_nt, val_dt] at h
        rw [val_nt, val_dt, val_nt, val_dt]
        exact h
      have s4 : (BA (text (x.num * (y.den : Int) + y.num * (x.den : Int)))).size ≤ 3000 := by
        rw [BA_size]
        refine Nat.le_trans (text_length (k := d + d + 1) ?_) (by omega)
        have h3 := Int.natAbs_add_le (x.num * (y.den : Int)) (y.num * (x.den : Int))
        rw [Int.natAbs_mul, Int.natAbs_mul, Int.natAbs_natCast, Int.natAbs_natCast] at h3
        omega
      have RN : Hid (∀ W, Calls Tryz.prog 11 #[.string (BA (text (x.num * (y.den : Int) + y.num * (x.den : Int)))), .string (BA (text (val (LA (dt x)) * val (LA (dt y)))))] W (RetN W (x + y))) := fun W => by
        have h := ratN (BA (text (x.num * (y.den : Int) + y.num * (x.den : Int)))) (BA (text (val (LA (dt x)) * val (LA (dt y))))) W (by omega) (by omega)
        rw [val_dt, val_dt, quo_text, q_add] at h
        rw [val_dt, val_dt]
        exact h
      clear hb hb' A1 A2 T0 m1 m2 m3 hp2 s1 s2 s3 s4
      generalize x.num * (y.den : Int) + y.num * (x.den : Int) = nn at hA RN
      generalize nt x = nx at *
      generalize dt x = dx at *
      generalize nt y = ny at *
      generalize dt y = dy at *
      go_wp2_with fail
      go_region_held3 (fun W' => W'.cell? ⟨w.heap.size, 1, none⟩ = some (.string nx) ∧ W'.cell? ⟨w.heap.size, 2, none⟩ = some (.string dx) ∧ W'.cell? ⟨w.heap.size + 1, 1, none⟩ = some (.string ny) ∧ W'.cell? ⟨w.heap.size + 1, 2, none⟩ = some (.string dy)) (go_keep)
        (first
          | (go_at_call 72; refine (multiply_any _ _ _ (by omega) (by omega)).mono ?_; rintro e w3 ⟨rfl, hb3⟩; have hB3 := chain2 ‹Below wc.heap.size wc _› hb3 (Nat.le_refl _); obtain ⟨⟨_, c1, c2, _, _, _, _⟩, _⟩ := row7 (T.out.below hB3).b0; obtain ⟨⟨_, d1, d2, _, _, _, _⟩, _⟩ := row7 (T.out.below hB3).b1)
          | (go_at_call 71; refine (hA.out _).mono ?_; rintro e w3 ⟨rfl, hb3⟩; have hB3 := chain2 ‹Below wc.heap.size wc _› hb3 (Nat.le_refl _); obtain ⟨⟨_, c1, c2, _, _, _, _⟩, _⟩ := row7 (T.out.below hB3).b0; obtain ⟨⟨_, d1, d2, _, _, _, _⟩, _⟩ := row7 (T.out.below hB3).b1))
      go_wp2_with fail
      refine (multiply_any _ _ _ (by omega) (by omega)).mono ?_
      rintro e w5 ⟨rfl, hb5⟩
      have hB5 := chain2 ‹Below wc.heap.size wc _› hb5 (Nat.le_refl _)
      go_wp2_with fail
      refine (RN.out _).mono ?_
      rintro e w6 ⟨rfl, hb6⟩
      have T6 := Lib.hid (T.out.below (chain2 hB5 hb6 (Nat.le_refl _)))
      obtain ⟨z, hz, hz2⟩ := T6.out.b2
      have HZ := Lib.hid hz2
      have HZ1 := Lib.hid hz
      clear hz hz2
      go_wp2_with (refine storeN rfl (.tmp 4) (.tmp 40) rfl (w.heap.size + 1 + 1) (x + y) rfl rfl _ _ HZ.out HZ1.out ?_)
      exact retN (q := 4) (g := w.heap.size + 1 + 1) rfl rfl (setRow_heap _ _ _ _ _ _ HZ.out) rfl (below_setRowO T6.out.bel (by omega) _)
end Go.Proofs.YtfnkmgipjemkdaaGreatDoor

/- The program's Opposite, Reciprocal, Less. -/
namespace Go.Proofs.YtfnkmgipjemkdaaGreatDoor
open Go Go.RowKit
set_option linter.unusedVariables false

/-- An object in its box, a result beside it. -/
structure TwoB (w W : World) (x : Array Value) : Prop where
  b0 : W.heap[w.heap.size]? = some (.cells x 31 (0, 0))
  b1 : ∃ z : Array Value, z.size = 7 ∧ W.heap[w.heap.size + 1]? = some (.cells z 31 (0, 0))
  bel : Below w.heap.size w W
  size : w.heap.size + 2 ≤ W.heap.size
theorem TwoB.new (w : World) (x z : Array Value) (hz : z.size = 7) : TwoB w ((w.alloc (.cells x 31)).alloc (.cells z 31)) x :=
  ⟨heap_alloc2_old w _ _, ⟨z, hz, heap_alloc2_new w _ _⟩, Below.alloc (Below.alloc (Below.refl _ _) (Nat.le_refl _) _) (by simp) _, by simp⟩
theorem TwoB.below {w W W' : World} {x : Array Value} (h : TwoB w W x) (hb : Below W.heap.size W W') : TwoB w W' x := by
  have := h.size
  obtain ⟨z, hz, h2⟩ := h.b1
  exact ⟨(hb.block _ (by omega)).trans h.b0, ⟨z, hz, (hb.block _ (by omega)).trans h2⟩, h.bel.trans (hb.mono (by omega)), Nat.le_trans h.size hb.size⟩
theorem TwoB.set {w W : World} {x : Array Value} (h : TwoB w W x) (y : Array Value) : TwoB w (W.setRow w.heap.size y) y := by
  obtain ⟨z, hz, h2⟩ := h.b1
  exact ⟨setRow_heap _ _ _ _ _ _ h.b0, ⟨z, hz, (setRow_other _ _ _ _ (by omega)).trans h2⟩, below_setRowO h.bel (Nat.le_refl _) _, by rw [size_setRow]; exact h.size⟩
theorem TwoB.ret {w W : World} {x : Array Value} (T : TwoB w W x) (q : Rat) {fn : Func} {r : Tmp} {tmps : Array Value} (h : fn.results = #[.cell r 31]) (hr : tmps.getD r undef = .pointer (some ⟨w.heap.size + 1, 0, none⟩)) :
    bodyPost Tryz.prog fn (RetN w q) Exit.ret ⟨tmps, []⟩ (((((((W.setCell ⟨w.heap.size + 1, 0, none⟩ (.int .i64 1)).setCell ⟨w.heap.size + 1, 1, none⟩ (.string (nt q))).setCell ⟨w.heap.size + 1, 2, none⟩ (.string (dt q))).setCell ⟨w.heap.size + 1, 3, none⟩ (.string ⟨#[]⟩)).setCell ⟨w.heap.size + 1, 4, none⟩ (.string ⟨#[]⟩)).setCell ⟨w.heap.size + 1, 5, none⟩ (.string ⟨#[]⟩)).setCell ⟨w.heap.size + 1, 6, none⟩ (.slice none 0 0)) := by
  obtain ⟨z, hz, h2⟩ := T.b1
  rw [setRow7 h2 hz]
  exact retN h hr (setRow_heap _ _ _ _ _ _ h2) rfl (below_setRowO T.bel (by omega) _)

set_option maxHeartbeats 8000000 in
set_option maxRecDepth 100000 in
theorem reciprocalP (d : Nat) (hd : d ≤ 1000) (a : Ob) (p : Value) (w : World) (S : Nat → Prop) (hp : Pair w S a p) (hb : Bd d a.fix) (ht : Tab w) :
    Calls Tryz.prog 47 #[vO a p] w (RetN w (a.fix⁻¹)) := by
  have HT := Lib.hid ht
  have A1 : Hid (∀ wd, Tab wd → Calls Tryz.prog 69 #[vO a p] wd (RetN wd a.fix)) := fun wd h => asNumP a p wd (fun q e => by subst e; exact hp) h
  clear ht hp
  generalize a.fix = x at A1 hb ⊢
  obtain ⟨x0, x1, x2, x3, x4, x5, e⟩ := cells7 a p
  unfold vO at A1
  rw [e] at A1
  unfold vO
  rw [e]
  clear e
  go_enter Tryz.func47, Tryz.ntmps47
  go_wp2_with fail
  have T0 := TwoB.new w #[x0, x1, x2, x3, x4, x5, p] #[.int .i64 0, .string ⟨#[]⟩, .string ⟨#[]⟩, .string ⟨#[]⟩, .string ⟨#[]⟩, .string ⟨#[]⟩, .slice none 0 0] rfl
  generalize (w.alloc (.cells #[x0, x1, x2, x3, x4, x5, p] 31)).alloc (.cells #[.int .i64 0, .string ⟨#[]⟩, .string ⟨#[]⟩, .string ⟨#[]⟩, .string ⟨#[]⟩, .string ⟨#[]⟩, .slice none 0 0] 31) = W at T0 ⊢
  refine (A1.out _ (HT.out.below T0.bel)).mono ?_
  rintro e w1 ⟨rfl, hb1⟩
  have T1 := Lib.hid (T0.below hb1)
  have HZ := Lib.hid T1.out.b0
  have b1 := bd_nt hb
  have b2 := bd_dt hb
  have RN : Hid (∀ W, Calls Tryz.prog 11 #[.string (dt x), .string (nt x)] W (RetN W x⁻¹)) := fun W => by
    have h := ratN (dt x) (nt x) W (by omega) (by omega)
    have e : quo (LA (dt x)) (LA (nt x)) = x⁻¹ := by unfold quo; rw [val_nt, val_dt, q_inv]
    rw [e] at h
    exact h
  have k1 : (w1.setRow w.heap.size #[.int .i64 1, .string (nt x), .string (dt x), .string ⟨#[]⟩, .string ⟨#[]⟩, .string ⟨#[]⟩, .slice none 0 0]).cell? ⟨w.heap.size, 1, none⟩ = some (.string (nt x)) := by
    rw [cell_setRow_same _ _ _ _ _ _ _ HZ.out]; rfl
  have k2 : (w1.setRow w.heap.size #[.int .i64 1, .string (nt x), .string (dt x), .string ⟨#[]⟩, .string ⟨#[]⟩, .string ⟨#[]⟩, .slice none 0 0]).cell? ⟨w.heap.size, 2, none⟩ = some (.string (dt x)) := by
    rw [cell_setRow_same _ _ _ _ _ _ _ HZ.out]; rfl
  clear T0 hb1 A1 HT hb b1 b2
  go_wp2_with (refine storeN rfl (.tmp 1) (.tmp 4) rfl w.heap.size x rfl rfl _ _ HZ.out rfl ?_)
  have T2 := Lib.hid (T1.out.set #[.int .i64 1, .string (nt x), .string (dt x), .string ⟨#[]⟩, .string ⟨#[]⟩, .string ⟨#[]⟩, .slice none 0 0])
  clear HZ T1 k1 k2
  generalize w1.setRow w.heap.size #[.int .i64 1, .string (nt x), .string (dt x), .string ⟨#[]⟩, .string ⟨#[]⟩, .string ⟨#[]⟩, .slice none 0 0] = wc at T2 ⊢
  refine (RN.out _).mono ?_
  rintro e w6 ⟨rfl, hb6⟩
  have T6 := Lib.hid (T2.out.below hb6)
  obtain ⟨z, hz, hz2⟩ := T6.out.b1
  have HZ := Lib.hid hz2
  have HZ1 := Lib.hid hz
  clear hz hz2 hb6
  go_wp2_with (refine storeN rfl (.tmp 2) (.tmp 9) rfl (w.heap.size + 1) x⁻¹ rfl rfl _ _ HZ.out HZ1.out ?_)
  exact retN (q := 2) (g := w.heap.size + 1) rfl rfl (setRow_heap _ _ _ _ _ _ HZ.out) rfl (below_setRowO T6.out.bel (by omega) _)

set_option maxHeartbeats 8000000 in
set_option maxRecDepth 100000 in
theorem oppositeP (d : Nat) (hd : d ≤ 1000) (a : Ob) (p : Value) (w : World) (S : Nat → Prop) (hp : Pair w S a p) (hb : Bd d a.fix) (ht : Tab w) :
    Calls Tryz.prog 45 #[vO a p] w (RetN w (-a.fix)) := by
  have HT := Lib.hid ht
  have A1 : Hid (∀ wd, Tab wd → Calls Tryz.prog 69 #[vO a p] wd (RetN wd a.fix)) := fun wd h => asNumP a p wd (fun q e => by subst e; exact hp) h
  clear ht hp
  generalize a.fix = x at A1 hb ⊢
  obtain ⟨x0, x1, x2, x3, x4, x5, e⟩ := cells7 a p
  unfold vO at A1
  rw [e] at A1
  unfold vO
  rw [e]
  clear e
  go_enter Tryz.func45, Tryz.ntmps45
  go_wp2_with fail
  have T0 := TwoB.new w #[x0, x1, x2, x3, x4, x5, p] #[.int .i64 0, .string ⟨#[]⟩, .string ⟨#[]⟩, .string ⟨#[]⟩, .string ⟨#[]⟩, .string ⟨#[]⟩, .slice none 0 0] rfl
  generalize (w.alloc (.cells #[x0, x1, x2, x3, x4, x5, p] 31)).alloc (.cells #[.int .i64 0, .string ⟨#[]⟩, .string ⟨#[]⟩, .string ⟨#[]⟩, .string ⟨#[]⟩, .string ⟨#[]⟩, .slice none 0 0] 31) = W at T0 ⊢
  refine (A1.out _ (HT.out.below T0.bel)).mono ?_
  rintro e w1 ⟨rfl, hb1⟩
  have T1 := Lib.hid (T0.below hb1)
  have HZ := Lib.hid T1.out.b0
  clear T0 hb1 A1 HT
  go_wp2_with (refine storeN rfl (.tmp 1) (.tmp 4) rfl w.heap.size x rfl rfl _ _ HZ.out rfl ?_)
  have T2 := Lib.hid (T1.out.set #[.int .i64 1, .string (nt x), .string (dt x), .string ⟨#[]⟩, .string ⟨#[]⟩, .string ⟨#[]⟩, .slice none 0 0])
  clear HZ T1
  generalize w1.setRow w.heap.size #[.int .i64 1, .string (nt x), .string (dt x), .string ⟨#[]⟩, .string ⟨#[]⟩, .string ⟨#[]⟩, .slice none 0 0] = wc at T2 ⊢
  obtain ⟨⟨_, c1, c2, _, _, _, _⟩, _⟩ := row7 T2.out.b0
  have b1 := bd_nt hb
  have b2 := bd_dt hb
  have s1 : (BA (text (- val (LA (nt x))))).size ≤ 3000 := by
    rw [val_nt, BA_size]
    refine Nat.le_trans (text_length (k := d) ?_) (by omega)
    rw [Int.natAbs_neg]
    exact hb.1
  have RN : Hid (∀ W, Calls Tryz.prog 11 #[.string (BA (text (- val (LA (nt x))))), .string (dt x)] W (RetN W (-x))) := fun W => by
    have h := ratN (BA (text (- val (LA (nt x))))) (dt x) W (by omega) (by omega)
    have e : quo (LA (BA (text (- val (LA (nt x)))))) (LA (dt x)) = -x := by
      show quo _ (LA (BA (text (x.den : Int)))) = _
      rw [val_nt, quo_text, q_neg]
    rw [e] at h
    exact h
  clear hb s1
  have hB0 : Below wc.heap.size wc wc.drew := (Below.refl _ _).drew
  have n1 : ¬ w.heap.size + 1 = w.heap.size := by omega
  generalize nt x = nx at *
  generalize dt x = dx at *
  go_wp2_with fail
  go_region_held3 (fun W' => W'.cell? ⟨w.heap.size, 1, none⟩ = some (.string nx) ∧ W'.cell? ⟨w.heap.size, 2, none⟩ = some (.string dx)) (go_keep)
    (first
      | (go_at_call 74; refine (negate_any _ _ (by omega)).mono ?_; rintro e w3 ⟨rfl, hb3⟩; have hB3 := chain2 ‹Below wc.heap.size wc _› hb3 (Nat.le_refl _); obtain ⟨⟨_, c1, c2, _, _, _, _⟩, _⟩ := row7 (T2.out.below hB3).b0)
      | (go_at_call 11; refine (RN.out _).mono ?_; rintro e w4 ⟨rfl, hb4⟩; have hB4 := chain2 ‹Below wc.heap.size wc _› hb4 (Nat.le_refl _); obtain ⟨⟨_, c1, c2, _, _, _, _⟩, _⟩ := row7 (T2.out.below hB4).b0; obtain ⟨z, hz, hz2⟩ := (T2.out.below hB4).b1; obtain ⟨z0, z1, z2, z3, z4, z5, z6, ⟨q0, q1, q2, q3, q4, q5, q6⟩, f2⟩ := row7z hz hz2; clear hz hz2; unfold vQ))
  all_goals go_wp2
  all_goals exact TwoB.ret (T2.out.below ‹Below wc.heap.size wc _›) _ rfl rfl

/-- Two objects in their boxes. -/
structure BoxB (w W : World) (x y : Array Value) : Prop where
  b0 : W.heap[w.heap.size]? = some (.cells x 31 (0, 0))
  b1 : W.heap[w.heap.size + 1]? = some (.cells y 31 (0, 0))
  bel : Below w.heap.size w W
  size : w.heap.size + 2 ≤ W.heap.size
theorem BoxB.new (w : World) (x y : Array Value) : BoxB w ((w.alloc (.cells x 31)).alloc (.cells y 31)) x y :=
  ⟨heap_alloc2_old w _ _, heap_alloc2_new w _ _, Below.alloc (Below.alloc (Below.refl _ _) (Nat.le_refl _) _) (by simp) _, by simp⟩
theorem BoxB.below {w W W' : World} {x y : Array Value} (h : BoxB w W x y) (hb : Below W.heap.size W W') : BoxB w W' x y := by
  have := h.size
  exact ⟨(hb.block _ (by omega)).trans h.b0, (hb.block _ (by omega)).trans h.b1, h.bel.trans (hb.mono (by omega)), Nat.le_trans h.size hb.size⟩

set_option maxHeartbeats 8000000 in
set_option maxRecDepth 100000 in
theorem lessP (d : Nat) (hd : d ≤ 1000) (a a' : Ob) (p p' : Value) (w : World) (S : Nat → Prop) (hp : Pair w S a p) (hp' : Pair w S a' p') (hb : Bd d a.fix) (hb' : Bd d a'.fix) (ht : Tab w) :
    Calls Tryz.prog 38 #[vO a p, vO a' p'] w (RetB w (decide (ordQ a.fix a'.fix < 0))) := by
  have HT := Lib.hid ht
  have A1 : Hid (∀ wd, Tab wd → Calls Tryz.prog 69 #[vO a p] wd (RetN wd a.fix)) := fun wd h => asNumP a p wd (fun q e => by subst e; exact hp) h
  have A2 : Hid (∀ wd, Tab wd → Calls Tryz.prog 69 #[vO a' p'] wd (RetN wd a'.fix)) := fun wd h => asNumP a' p' wd (fun q e => by subst e; exact hp') h
  have CN : Hid (∀ wd, Calls Tryz.prog 68 #[vQ a.fix, vQ a'.fix] wd (RetI wd (ordQ a.fix a'.fix))) := fun wd => cmpNumP d hd _ _ wd hb hb'
  clear ht hp hp' hb hb'
  generalize a.fix = x at A1 CN ⊢
  generalize a'.fix = y at A2 CN ⊢
  generalize ordQ x y = r at CN ⊢
  obtain ⟨x0, x1, x2, x3, x4, x5, e⟩ := cells7 a p
  obtain ⟨y0, y1, y2, y3, y4, y5, e'⟩ := cells7 a' p'
  unfold vO at A1 A2
  rw [e] at A1
  rw [e'] at A2
  unfold vO
  rw [e, e']
  clear e e'
  go_enter Tryz.func38, Tryz.ntmps38
  go_wp2_with fail
  have T0 := BoxB.new w #[x0, x1, x2, x3, x4, x5, p] #[y0, y1, y2, y3, y4, y5, p']
  generalize (w.alloc (.cells #[x0, x1, x2, x3, x4, x5, p] 31)).alloc (.cells #[y0, y1, y2, y3, y4, y5, p'] 31) = W at T0 ⊢
  have hB0 : Below W.heap.size W W.drew := (Below.refl _ _).drew
  obtain ⟨⟨c0, c1, c2, c3, c4, c5, c6⟩, _⟩ := row7 T0.b0
  obtain ⟨⟨d0, d1, d2, d3, d4, d5, d6⟩, _⟩ := row7 T0.b1
  have HB : Hid (∀ W', Below W.heap.size W W' → Tab W') := fun W' h => HT.out.below (T0.below h).bel
  have HT0 := Lib.hid T0
  clear T0 HT
  go_region_held3 (fun W' => (W'.cell? ⟨w.heap.size, 0, none⟩ = some x0 ∧ W'.cell? ⟨w.heap.size, 1, none⟩ = some x1 ∧ W'.cell? ⟨w.heap.size, 2, none⟩ = some x2 ∧ W'.cell? ⟨w.heap.size, 3, none⟩ = some x3 ∧ W'.cell? ⟨w.heap.size, 4, none⟩ = some x4 ∧ W'.cell? ⟨w.heap.size, 5, none⟩ = some x5 ∧ W'.cell? ⟨w.heap.size, 6, none⟩ = some p) ∧
      (W'.cell? ⟨w.heap.size + 1, 0, none⟩ = some y0 ∧ W'.cell? ⟨w.heap.size + 1, 1, none⟩ = some y1 ∧ W'.cell? ⟨w.heap.size + 1, 2, none⟩ = some y2 ∧ W'.cell? ⟨w.heap.size + 1, 3, none⟩ = some y3 ∧ W'.cell? ⟨w.heap.size + 1, 4, none⟩ = some y4 ∧ W'.cell? ⟨w.heap.size + 1, 5, none⟩ = some y5 ∧ W'.cell? ⟨w.heap.size + 1, 6, none⟩ = some p')) (first | exact ⟨(row7 (HT0.out.below ‹Below W.heap.size W _›).b0).1, (row7 (HT0.out.below ‹Below W.heap.size W _›).b1).1⟩ | go_keep)
    (first
      | (go_at_call_of 69 (Value.agg #[x0, x1, x2, x3, x4, x5, p]); refine (A1.out _ (HB.out _ ‹Below W.heap.size W _›)).mono ?_; rintro e w3 ⟨rfl, hb3⟩; have hB3 := chain2 ‹Below W.heap.size W _› hb3 (Nat.le_refl _); clear hb3)
      | (go_at_call_of 69 (Value.agg #[y0, y1, y2, y3, y4, y5, p']); refine (A2.out _ (HB.out _ ‹Below W.heap.size W _›)).mono ?_; rintro e w4 ⟨rfl, hb4⟩; have hB4 := chain2 ‹Below W.heap.size W _› hb4 (Nat.le_refl _); clear hb4)
      | (go_at_call 68; refine (CN.out _).mono ?_; rintro e w5 ⟨rfl, hb5⟩; have hB5 := chain2 ‹Below W.heap.size W _› hb5 (Nat.le_refl _); clear hb5))
  all_goals go_wp2
  all_goals go_ret
  all_goals exact ⟨rfl, (HT0.out.below ‹Below W.heap.size W _›).bel⟩
end Go.Proofs.YtfnkmgipjemkdaaGreatDoor

/- The reference's Fix, rank, Bytes, CompareSymbols, IsCons, IsInteger. -/
namespace Go.Proofs.YtfnkmgipjemkdaaGreatDoor
open Go Go.RowKit
set_option linter.unusedVariables false

set_option maxHeartbeats 1000000 in
set_option maxRecDepth 100000 in
theorem fixR (a : Ob) (p : Value) (w : World) (hp : ∀ q, a = .num q → p = .slice none 0 0) (ht : Tab w) :
    Calls Tryz.prog 70 #[vO a p] w (RetN w a.fix) := by
  have HT := Lib.hid ht
  clear ht
  have hz : Hid (∀ w, Tab w → Calls Tryz.prog 14 #[.int .i64 0] w (RetN w 0)) := fun w ht =>
    (intO 0 w (fun _ => False) (fun _ h => h.elim) (i64_small (by omega)) ht).mono fun _ _ h => RetO.num h
  by_cases hk : (fO a).1 = 1
  · cases a with
    | num q =>
      obtain rfl := hp q rfl
      rw [vQ_eq]
      show Calls _ _ _ _ (RetN w q)
      unfold vQ
      clear hk hp hz
      go_enter Tryz.func70, Tryz.ntmps70
      go_wp2_with fail
      exact retN rfl rfl (heap_alloc2_new w _ _) rfl (Below.alloc (Below.alloc (Below.refl _ _) (Nat.le_refl _) _) (by simp) _)
    | _ => simp [fO] at hk
  · have hf : a.fix = 0 := by cases a <;> first | rfl | (exact absurd rfl hk)
    rw [hf]
    have e := cellsO_f a p
    unfold vO
    rw [e]
    have hn : ((fO a).1 == 1) = false := by rw [beq_eq_false_iff_ne]; exact hk
    clear e hf hk hp
    generalize (fO a).1 = k at hn ⊢
    generalize (fO a).2 = y at ⊢
    obtain ⟨s1, s2, s3, s4, s5⟩ := y
    go_enter Tryz.func70, Tryz.ntmps70
    go_wp2_with fail
    have hb0 : Below w.heap.size w ((w.alloc (.cells #[.int .i64 k, .string s1, .string s2, .string s3, .string s4, .string s5, p] 31)).alloc (.cells #[.int .i64 0, .string ⟨#[]⟩, .string ⟨#[]⟩, .string ⟨#[]⟩, .string ⟨#[]⟩, .string ⟨#[]⟩, .slice none 0 0] 31)) := Below.alloc (Below.alloc (Below.refl _ _) (Nat.le_refl _) _) (by simp) _
    have hg0 := heap_alloc2_new w (.cells #[.int .i64 k, .string s1, .string s2, .string s3, .string s4, .string s5, p] 31) (.cells #[.int .i64 0, .string ⟨#[]⟩, .string ⟨#[]⟩, .string ⟨#[]⟩, .string ⟨#[]⟩, .string ⟨#[]⟩, .slice none 0 0] 31)
    refine (hz.out _ (HT.out.below hb0)).mono ?_
    rintro e w1 ⟨rfl, hb1⟩
    have hg1 := Lib.hid ((hb1.block (w.heap.size + 1) (by simp)).trans hg0)
    have hbw := Lib.hid (hb0.trans (hb1.mono hb0.size))
    clear hb0 hb1 hg0
    go_wp2_with (refine storeN rfl (.tmp 2) (.tmp 7) rfl (w.heap.size + 1) 0 rfl rfl _ _ hg1.out rfl ?_)
    exact retN (q := 2) (g := w.heap.size + 1) rfl rfl (setRow_heap _ _ _ _ _ _ hg1.out) rfl (below_setRowO hbw.out (by omega) _)
set_option maxHeartbeats 1000000 in
set_option maxRecDepth 100000 in
theorem isIntegerRawR (k : Int) (s1 s2 s3 s4 s5 : ByteArray) (p : Value) (w : World) :
    Calls Tryz.prog 35 #[.agg #[.int .i64 k, .string s1, .string s2, .string s3, .string s4, .string s5, p]] w (RetB w (k == 1 && (s2.toList == [49]))) := by
  cases h1 : (k == 1) with
  | false =>
    go_enter Tryz.func35, Tryz.ntmps35
    go_wp2
    go_ret
    exact ⟨rfl, Below.alloc (Below.refl _ _) (Nat.le_refl _) _⟩
  | true =>
    cases h2 : (s2.toList == [49]) with
    | false =>
      go_enter Tryz.func35, Tryz.ntmps35
      go_wp2
      go_ret
      exact ⟨rfl, Below.alloc (Below.refl _ _) (Nat.le_refl _) _⟩
    | true =>
      go_enter Tryz.func35, Tryz.ntmps35
      go_wp2
      go_ret
      exact ⟨rfl, Below.alloc (Below.refl _ _) (Nat.le_refl _) _⟩

theorem isIntegerR (o : Ob) (p : Value) (w : World) : Calls Tryz.prog 35 #[vO o p] w (RetB w o.isInt) := by
  obtain ⟨k, s1, s2, s3, s4, s5, e, _, e2⟩ := cells_flat o p
  have e3 : o.isInt = (k == 1 && (s2.toList == [49])) := by rw [e2]; cases o <;> rfl
  unfold vO
  rw [e, e3]
  exact isIntegerRawR k s1 s2 s3 s4 s5 p w
set_option maxHeartbeats 1000000 in
set_option maxRecDepth 100000 in
theorem isConsR (a : Ob) (p : Value) (w : World) (S : Nat → Prop) (h : Pair w S a p) : Calls Tryz.prog 61 #[vO a p] w (RetB w a.isCons) := by
  have e := cellsO_f a p
  unfold vO
  rw [e]
  cases hc : a.isCons with
  | true =>
    cases a with
    | cons x y =>
      obtain ⟨b, o, c, pa, pd, rfl, h2, _, _⟩ := h.parts
      show Calls _ _ #[.agg #[.int .i64 4, .string ⟨#[]⟩, .string ⟨#[]⟩, .string ⟨#[]⟩, .string ⟨#[]⟩, .string ⟨#[]⟩, .slice (some ⟨b, o, none⟩) 2 c]] _ _
      clear e hc h
      go_enter Tryz.func61, Tryz.ntmps61
      go_wp2
      go_ret
      exact ⟨rfl, Below.alloc (Below.refl _ _) (Nat.le_refl _) _⟩
    | _ => simp [Ob.isCons] at hc
  | false =>
    have hk : ((fO a).1 == 4) = false := by cases a <;> first | rfl | simp [Ob.isCons] at hc
    clear e hc h
    generalize (fO a).1 = k at hk ⊢
    generalize (fO a).2 = y
    obtain ⟨s1, s2, s3, s4, s5⟩ := y
    go_enter Tryz.func61, Tryz.ntmps61
    go_wp2
    go_ret
    exact ⟨rfl, Below.alloc (Below.refl _ _) (Nat.le_refl _) _⟩
set_option maxHeartbeats 1000000 in
set_option maxRecDepth 100000 in
theorem rankR (a : Ob) (p : Value) (w : World) : Calls Tryz.prog 63 #[vO a p] w (RetI w a.rank) := by
  unfold vO
  cases a with
  | num q =>
    show Calls _ _ #[.agg #[.int .i64 1, .string (nt q), .string (dt q), .string ⟨#[]⟩, .string ⟨#[]⟩, .string ⟨#[]⟩, p]] _ _
    go_enter Tryz.func63, Tryz.ntmps63
    go_wp2
    go_ret
    exact ⟨rfl, Below.alloc (Below.refl _ _) (Nat.le_refl _) _⟩
  | str s =>
    show Calls _ _ #[.agg #[.int .i64 3, .string ⟨#[]⟩, .string ⟨#[]⟩, .string ⟨#[]⟩, .string ⟨#[]⟩, .string (BA s), p]] _ _
    go_enter Tryz.func63, Tryz.ntmps63
    go_wp2
    go_ret
    exact ⟨rfl, Below.alloc (Below.refl _ _) (Nat.le_refl _) _⟩
  | sym s n =>
    show Calls _ _ #[.agg #[.int .i64 2, .string ⟨#[]⟩, .string ⟨#[]⟩, .string (BA s), .string (BA n), .string ⟨#[]⟩, p]] _ _
    go_enter Tryz.func63, Tryz.ntmps63
    go_wp2
    go_ret
    exact ⟨rfl, Below.alloc (Below.refl _ _) (Nat.le_refl _) _⟩
  | cons x y =>
    show Calls _ _ #[.agg #[.int .i64 4, .string ⟨#[]⟩, .string ⟨#[]⟩, .string ⟨#[]⟩, .string ⟨#[]⟩, .string ⟨#[]⟩, p]] _ _
    go_enter Tryz.func63, Tryz.ntmps63
    go_wp2
    go_ret
    exact ⟨rfl, Below.alloc (Below.refl _ _) (Nat.le_refl _) _⟩
set_option maxHeartbeats 1000000 in
set_option maxRecDepth 100000 in
theorem bytesR (s t : ByteArray) (w : World) : Calls Tryz.prog 66 #[.string s, .string t] w fun e w' => e = .returned (.int .i64 (ordB (LA s) (LA t))) ∧ w = w' := by
  have h1 := less_eq (LA s) (LA t)
  have h2 := less_eq (LA t) (LA s)
  have ha := ordB_anti (LA s) (LA t)
  rcases ordB_range (LA s) (LA t) with hr | hr | hr
  all_goals have hr0 := hr
  · rw [hr] at h1 ⊢
    have h1' : Op.bytesLess s.toList t.toList = true := by rw [Lib.toList_data, Lib.toList_data]; change Op.bytesLess (LA s) (LA t) = true; rw [h1]; rfl
    clear h1 h2 ha hr hr0
    go_enter Tryz.func66, Tryz.ntmps66
    go_wp2
    go_ret
    exact ⟨rfl, rfl⟩
  · rw [hr] at h1 ha ⊢
    rw [ha] at h2
    have h1' : Op.bytesLess s.toList t.toList = false := by rw [Lib.toList_data, Lib.toList_data]; change Op.bytesLess (LA s) (LA t) = false; rw [h1]; rfl
    have h2' : (s.toList == t.toList) = true := by
      rw [Lib.toList_data, Lib.toList_data]
      exact beq_iff_eq.2 ((ordB_zero (LA s) (LA t)).1 hr0)
    clear h1 h2 ha hr hr0
    go_enter Tryz.func66, Tryz.ntmps66
    go_wp2
    go_ret
    exact ⟨rfl, rfl⟩
  · rw [hr] at h1 ha ⊢
    rw [ha] at h2
    have h1' : Op.bytesLess s.toList t.toList = false := by rw [Lib.toList_data, Lib.toList_data]; change Op.bytesLess (LA s) (LA t) = false; rw [h1]; rfl
    have h2' : (s.toList == t.toList) = false := by
      rw [Lib.toList_data, Lib.toList_data, beq_eq_false_iff_ne]
      intro e
      have e0 := (ordB_zero (LA s) (LA t)).2 e
      omega
    clear h1 h2 ha hr hr0
    go_enter Tryz.func66, Tryz.ntmps66
    go_wp2
    go_ret
    exact ⟨rfl, rfl⟩
set_option maxHeartbeats 1000000 in
set_option maxRecDepth 100000 in
theorem cmpSymR (s t s' t' : ByteArray) (w : World) : Calls Tryz.prog 67 #[.agg #[.string s, .string t], .agg #[.string s', .string t']] w (RetI w (ordS (LA s) (LA t) (LA s') (LA t'))) := by
  have hb : Below w.heap.size w ((w.alloc (.cells #[.string s, .string t] 23)).alloc (.cells #[.string s', .string t'] 23)) := Below.alloc (Below.alloc (Below.refl _ _) (Nat.le_refl _) _) (by simp) _
  cases hd : (t.toList == t'.toList) with
  | true =>
    have e : LA t = LA t' := by
      have := eq_of_beq hd
      rwa [Lib.toList_data, Lib.toList_data] at this
    have hr : Hid (ordB (LA s) (LA s') = ordS (LA s) (LA t) (LA s') (LA t')) := by
      show _ = _
      unfold ordS next
      rw [if_pos ((ordB_zero _ _).2 e)]
    have hn : (t.toList != t'.toList) = false := by rw [bne, hd]; rfl
    clear e
    go_enter Tryz.func67, Tryz.ntmps67
    go_wp2_with fail
    refine (bytesR s s' _).mono ?_
    rintro e w' ⟨rfl, rfl⟩
    have HB := Lib.hid hb
    clear hb
    go_wp2
    go_ret
    exact ⟨ret_int hr.out, HB.out⟩
  | false =>
    have e : LA t ≠ LA t' := fun e => by
      have : (t.toList == t'.toList) = true := by rw [Lib.toList_data, Lib.toList_data]; exact beq_iff_eq.2 e
      rw [hd] at this; cases this
    have hr : Hid (ordB (LA t) (LA t') = ordS (LA s) (LA t) (LA s') (LA t')) := by
      show _ = _
      unfold ordS next
      rw [if_neg (fun h => e ((ordB_zero _ _).1 h))]
    have hn : (t.toList != t'.toList) = true := by rw [bne, hd]; rfl
    clear e
    go_enter Tryz.func67, Tryz.ntmps67
    go_wp2_with fail
    refine (bytesR t t' _).mono ?_
    rintro e w' ⟨rfl, rfl⟩
    have HB := Lib.hid hb
    clear hb
    go_wp2
    go_ret
    exact ⟨ret_int hr.out, HB.out⟩
end Go.Proofs.YtfnkmgipjemkdaaGreatDoor

/- The reference's Compare: objects of different kinds. -/
namespace Go.Proofs.YtfnkmgipjemkdaaGreatDoor
open Go Go.RowKit
set_option linter.unusedVariables false

set_option maxHeartbeats 8000000 in
set_option maxRecDepth 100000 in
theorem cmpR_ne (a a' : Ob) (p p' : Value) (w : World) (hr : a.rank ≠ a'.rank) :
    Calls Tryz.prog 37 #[vO a p, vO a' p'] w (RetI w (ordO a a')) := by
  obtain ⟨x0, x1, x2, x3, x4, x5, e⟩ := cells7 a p
  obtain ⟨y0, y1, y2, y3, y4, y5, e'⟩ := cells7 a' p'
  have R1 : Hid (∀ wd, Calls Tryz.prog 63 #[.agg #[x0, x1, x2, x3, x4, x5, p]] wd (RetI wd a.rank)) := fun wd => by
    have h := rankR a p wd; unfold vO at h; rw [e] at h; exact h
  have R2 : Hid (∀ wd, Calls Tryz.prog 63 #[.agg #[y0, y1, y2, y3, y4, y5, p']] wd (RetI wd a'.rank)) := fun wd => by
    have h := rankR a' p' wd; unfold vO at h; rw [e'] at h; exact h
  have hn : (a.rank != a'.rank) = true := by rw [bne_iff_ne]; exact hr
  have HR := Lib.hid hr
  have HO : Hid ((a.rank < a'.rank → ordO a a' = -1) ∧ (¬ a.rank < a'.rank → ordO a a' = 1)) := ⟨fun h => ordO_less h, fun h => ordO_more (by have := HR.out; omega)⟩
  unfold vO
  rw [e, e']
  clear e e' hr HR
  generalize a.rank = ra at *
  generalize a'.rank = rb at *
  go_enter Tryz.func37, Tryz.ntmps37
  go_wp2_with fail
  have T0 := BoxB.new w #[x0, x1, x2, x3, x4, x5, p] #[y0, y1, y2, y3, y4, y5, p']
  generalize (w.alloc (.cells #[x0, x1, x2, x3, x4, x5, p] 31)).alloc (.cells #[y0, y1, y2, y3, y4, y5, p'] 31) = W at T0 ⊢
  have hB0 : Below W.heap.size W W.drew := (Below.refl _ _).drew
  obtain ⟨⟨c0, c1, c2, c3, c4, c5, c6⟩, _⟩ := row7 T0.b0
  obtain ⟨⟨d0, d1, d2, d3, d4, d5, d6⟩, _⟩ := row7 T0.b1
  have HT0 := Lib.hid T0
  clear T0
  go_region_held3 (fun W' => (W'.cell? ⟨w.heap.size, 0, none⟩ = some x0 ∧ W'.cell? ⟨w.heap.size, 1, none⟩ = some x1 ∧ W'.cell? ⟨w.heap.size, 2, none⟩ = some x2 ∧ W'.cell? ⟨w.heap.size, 3, none⟩ = some x3 ∧ W'.cell? ⟨w.heap.size, 4, none⟩ = some x4 ∧ W'.cell? ⟨w.heap.size, 5, none⟩ = some x5 ∧ W'.cell? ⟨w.heap.size, 6, none⟩ = some p) ∧ (W'.cell? ⟨w.heap.size + 1, 0, none⟩ = some y0 ∧ W'.cell? ⟨w.heap.size + 1, 1, none⟩ = some y1 ∧ W'.cell? ⟨w.heap.size + 1, 2, none⟩ = some y2 ∧ W'.cell? ⟨w.heap.size + 1, 3, none⟩ = some y3 ∧ W'.cell? ⟨w.heap.size + 1, 4, none⟩ = some y4 ∧ W'.cell? ⟨w.heap.size + 1, 5, none⟩ = some y5 ∧ W'.cell? ⟨w.heap.size + 1, 6, none⟩ = some p')) (first | exact ⟨(row7 (HT0.out.below ‹Below W.heap.size W _›).b0).1, (row7 (HT0.out.below ‹Below W.heap.size W _›).b1).1⟩ | go_keep)
    (first
      | (go_at_call_of 63 (Value.agg #[x0, x1, x2, x3, x4, x5, p]); refine (R1.out _).mono ?_; rintro e w3 ⟨rfl, hb3⟩; have hB3 := chain2 ‹Below W.heap.size W _› hb3 (Nat.le_refl _); clear hb3)
      | (go_at_call_of 63 (Value.agg #[y0, y1, y2, y3, y4, y5, p']); refine (R2.out _).mono ?_; rintro e w4 ⟨rfl, hb4⟩; have hB4 := chain2 ‹Below W.heap.size W _› hb4 (Nat.le_refl _); clear hb4))
  have hL := ‹Below W.heap.size W _›
  obtain ⟨⟨k0, k1, k2, k3, k4, k5, k6⟩, _⟩ := row7 (HT0.out.below ‹Below W.heap.size W w4›).b0
  obtain ⟨⟨l0, l1, l2, l3, l4, l5, l6⟩, _⟩ := row7 (HT0.out.below ‹Below W.heap.size W w4›).b1
  have hB5 : Below W.heap.size W w4.drew := (‹Below W.heap.size W w4› : Below W.heap.size W w4).drew
  go_wp2_with fail
  clear hL
  by_cases hlt : ra < rb
  · have ho := Lib.hid (HO.out.1 (by omega))
    go_region_held3 (fun W' => (W'.cell? ⟨w.heap.size, 0, none⟩ = some x0 ∧ W'.cell? ⟨w.heap.size, 1, none⟩ = some x1 ∧ W'.cell? ⟨w.heap.size, 2, none⟩ = some x2 ∧ W'.cell? ⟨w.heap.size, 3, none⟩ = some x3 ∧ W'.cell? ⟨w.heap.size, 4, none⟩ = some x4 ∧ W'.cell? ⟨w.heap.size, 5, none⟩ = some x5 ∧ W'.cell? ⟨w.heap.size, 6, none⟩ = some p) ∧ (W'.cell? ⟨w.heap.size + 1, 0, none⟩ = some y0 ∧ W'.cell? ⟨w.heap.size + 1, 1, none⟩ = some y1 ∧ W'.cell? ⟨w.heap.size + 1, 2, none⟩ = some y2 ∧ W'.cell? ⟨w.heap.size + 1, 3, none⟩ = some y3 ∧ W'.cell? ⟨w.heap.size + 1, 4, none⟩ = some y4 ∧ W'.cell? ⟨w.heap.size + 1, 5, none⟩ = some y5 ∧ W'.cell? ⟨w.heap.size + 1, 6, none⟩ = some p')) (first | exact ⟨(row7 (HT0.out.below ‹Below W.heap.size W _›).b0).1, (row7 (HT0.out.below ‹Below W.heap.size W _›).b1).1⟩ | go_keep)
      (first
      | (go_at_call_of 63 (Value.agg #[x0, x1, x2, x3, x4, x5, p]); refine (R1.out _).mono ?_; rintro e w3 ⟨rfl, hb3⟩; have hB3 := chain2 ‹Below W.heap.size W _› hb3 (Nat.le_refl _); clear hb3)
      | (go_at_call_of 63 (Value.agg #[y0, y1, y2, y3, y4, y5, p']); refine (R2.out _).mono ?_; rintro e w4 ⟨rfl, hb4⟩; have hB4 := chain2 ‹Below W.heap.size W _› hb4 (Nat.le_refl _); clear hb4))
    go_wp2
    go_ret
    exact ⟨ret_int ho.out.symm, (HT0.out.below ‹Below W.heap.size W _›).bel⟩
  · have ho := Lib.hid (HO.out.2 (by omega))
    go_region_held3 (fun W' => (W'.cell? ⟨w.heap.size, 0, none⟩ = some x0 ∧ W'.cell? ⟨w.heap.size, 1, none⟩ = some x1 ∧ W'.cell? ⟨w.heap.size, 2, none⟩ = some x2 ∧ W'.cell? ⟨w.heap.size, 3, none⟩ = some x3 ∧ W'.cell? ⟨w.heap.size, 4, none⟩ = some x4 ∧ W'.cell? ⟨w.heap.size, 5, none⟩ = some x5 ∧ W'.cell? ⟨w.heap.size, 6, none⟩ = some p) ∧ (W'.cell? ⟨w.heap.size + 1, 0, none⟩ = some y0 ∧ W'.cell? ⟨w.heap.size + 1, 1, none⟩ = some y1 ∧ W'.cell? ⟨w.heap.size + 1, 2, none⟩ = some y2 ∧ W'.cell? ⟨w.heap.size + 1, 3, none⟩ = some y3 ∧ W'.cell? ⟨w.heap.size + 1, 4, none⟩ = some y4 ∧ W'.cell? ⟨w.heap.size + 1, 5, none⟩ = some y5 ∧ W'.cell? ⟨w.heap.size + 1, 6, none⟩ = some p')) (first | exact ⟨(row7 (HT0.out.below ‹Below W.heap.size W _›).b0).1, (row7 (HT0.out.below ‹Below W.heap.size W _›).b1).1⟩ | go_keep)
      (first
      | (go_at_call_of 63 (Value.agg #[x0, x1, x2, x3, x4, x5, p]); refine (R1.out _).mono ?_; rintro e w3 ⟨rfl, hb3⟩; have hB3 := chain2 ‹Below W.heap.size W _› hb3 (Nat.le_refl _); clear hb3)
      | (go_at_call_of 63 (Value.agg #[y0, y1, y2, y3, y4, y5, p']); refine (R2.out _).mono ?_; rintro e w4 ⟨rfl, hb4⟩; have hB4 := chain2 ‹Below W.heap.size W _› hb4 (Nat.le_refl _); clear hb4))
    go_wp2
    go_ret
    exact ⟨ret_int ho.out.symm, (HT0.out.below ‹Below W.heap.size W _›).bel⟩
end Go.Proofs.YtfnkmgipjemkdaaGreatDoor

/- The reference's Compare: texts, symbols, numbers. -/
namespace Go.Proofs.YtfnkmgipjemkdaaGreatDoor
open Go Go.RowKit
set_option linter.unusedVariables false

set_option maxHeartbeats 8000000 in
set_option maxRecDepth 100000 in
theorem cmpR_str (s t : List UInt8) (w : World) :
    Calls Tryz.prog 37 #[.agg #[.int .i64 3, .string ⟨#[]⟩, .string ⟨#[]⟩, .string ⟨#[]⟩, .string ⟨#[]⟩, .string (BA s), .slice none 0 0], .agg #[.int .i64 3, .string ⟨#[]⟩, .string ⟨#[]⟩, .string ⟨#[]⟩, .string ⟨#[]⟩, .string (BA t), .slice none 0 0]] w (RetI w (ordB s t)) := by
  have R1 : Hid (∀ wd, Calls Tryz.prog 63 #[.agg #[.int .i64 3, .string ⟨#[]⟩, .string ⟨#[]⟩, .string ⟨#[]⟩, .string ⟨#[]⟩, .string (BA s), .slice none 0 0]] wd (RetI wd 2)) := fun wd => rankR (.str s) (.slice none 0 0) wd
  have R2 : Hid (∀ wd, Calls Tryz.prog 63 #[.agg #[.int .i64 3, .string ⟨#[]⟩, .string ⟨#[]⟩, .string ⟨#[]⟩, .string ⟨#[]⟩, .string (BA t), .slice none 0 0]] wd (RetI wd 2)) := fun wd => rankR (.str t) (.slice none 0 0) wd
  have CB : Hid (∀ wd, Calls Tryz.prog 66 #[.string (BA s), .string (BA t)] wd fun e w' => e = .returned (.int .i64 (ordB s t)) ∧ wd = w') := fun wd => by
    have h := bytesR (BA s) (BA t) wd; rw [LA_BA, LA_BA] at h; exact h
  generalize BA s = bs at R1 R2 CB ⊢
  generalize BA t = bt at R1 R2 CB ⊢
  go_enter Tryz.func37, Tryz.ntmps37
  go_wp2_with fail
  have T0 := BoxB.new w #[.int .i64 3, .string ⟨#[]⟩, .string ⟨#[]⟩, .string ⟨#[]⟩, .string ⟨#[]⟩, .string bs, .slice none 0 0] #[.int .i64 3, .string ⟨#[]⟩, .string ⟨#[]⟩, .string ⟨#[]⟩, .string ⟨#[]⟩, .string bt, .slice none 0 0]
  generalize (w.alloc (.cells #[.int .i64 3, .string ⟨#[]⟩, .string ⟨#[]⟩, .string ⟨#[]⟩, .string ⟨#[]⟩, .string bs, .slice none 0 0] 31)).alloc (.cells #[.int .i64 3, .string ⟨#[]⟩, .string ⟨#[]⟩, .string ⟨#[]⟩, .string ⟨#[]⟩, .string bt, .slice none 0 0] 31) = W at T0 ⊢
  have hB0 : Below W.heap.size W W.drew := (Below.refl _ _).drew
  obtain ⟨⟨c0, c1, c2, c3, c4, c5, c6⟩, _⟩ := row7 T0.b0
  obtain ⟨⟨d0, d1, d2, d3, d4, d5, d6⟩, _⟩ := row7 T0.b1
  have HT0 := Lib.hid T0
  clear T0
  go_region_held3 (fun W' => (W'.cell? ⟨w.heap.size, 0, none⟩ = some (.int .i64 3) ∧ W'.cell? ⟨w.heap.size, 1, none⟩ = some (.string ⟨#[]⟩) ∧ W'.cell? ⟨w.heap.size, 2, none⟩ = some (.string ⟨#[]⟩) ∧ W'.cell? ⟨w.heap.size, 3, none⟩ = some (.string ⟨#[]⟩) ∧ W'.cell? ⟨w.heap.size, 4, none⟩ = some (.string ⟨#[]⟩) ∧ W'.cell? ⟨w.heap.size, 5, none⟩ = some (.string bs) ∧ W'.cell? ⟨w.heap.size, 6, none⟩ = some (.slice none 0 0)) ∧ (W'.cell? ⟨w.heap.size + 1, 0, none⟩ = some (.int .i64 3) ∧ W'.cell? ⟨w.heap.size + 1, 1, none⟩ = some (.string ⟨#[]⟩) ∧ W'.cell? ⟨w.heap.size + 1, 2, none⟩ = some (.string ⟨#[]⟩) ∧ W'.cell? ⟨w.heap.size + 1, 3, none⟩ = some (.string ⟨#[]⟩) ∧ W'.cell? ⟨w.heap.size + 1, 4, none⟩ = some (.string ⟨#[]⟩) ∧ W'.cell? ⟨w.heap.size + 1, 5, none⟩ = some (.string bt) ∧ W'.cell? ⟨w.heap.size + 1, 6, none⟩ = some (.slice none 0 0))) (first | exact ⟨(row7 (HT0.out.below ‹Below W.heap.size W _›).b0).1, (row7 (HT0.out.below ‹Below W.heap.size W _›).b1).1⟩ | go_keep)
    (first
      | (go_at_call_of 63 (Value.agg #[.int .i64 3, .string ⟨#[]⟩, .string ⟨#[]⟩, .string ⟨#[]⟩, .string ⟨#[]⟩, .string bs, .slice none 0 0]); refine (R1.out _).mono ?_; rintro e w3 ⟨rfl, hb3⟩; have hB3 := chain2 ‹Below W.heap.size W _› hb3 (Nat.le_refl _); clear hb3)
      | (go_at_call_of 63 (Value.agg #[.int .i64 3, .string ⟨#[]⟩, .string ⟨#[]⟩, .string ⟨#[]⟩, .string ⟨#[]⟩, .string bt, .slice none 0 0]); refine (R2.out _).mono ?_; rintro e w4 ⟨rfl, hb4⟩; have hB4 := chain2 ‹Below W.heap.size W _› hb4 (Nat.le_refl _); clear hb4))
  clear c0 c1 c2 c3 c4 c5 c6 d0 d1 d2 d3 d4 d5 d6
  obtain ⟨⟨c0, c1, c2, c3, c4, c5, c6⟩, _⟩ := row7 (HT0.out.below ‹Below W.heap.size W w4›).b0
  obtain ⟨⟨d0, d1, d2, d3, d4, d5, d6⟩, _⟩ := row7 (HT0.out.below ‹Below W.heap.size W w4›).b1
  go_wp2_with fail
  refine (R1.out _).mono ?_
  rintro e w5 ⟨rfl, hb5⟩
  have hB5 := chain2 ‹Below W.heap.size W w4› hb5 (Nat.le_refl _)
  clear hb5 c0 c1 c2 c3 c4 c5 c6 d0 d1 d2 d3 d4 d5 d6
  obtain ⟨⟨c0, c1, c2, c3, c4, c5, c6⟩, _⟩ := row7 (HT0.out.below ‹Below W.heap.size W w5›).b0
  obtain ⟨⟨d0, d1, d2, d3, d4, d5, d6⟩, _⟩ := row7 (HT0.out.below ‹Below W.heap.size W w5›).b1
  go_wp2_with fail
  refine (CB.out _).mono ?_
  rintro e w6 ⟨rfl, rfl⟩
  go_wp2
  go_ret
  exact ⟨rfl, (HT0.out.below ‹Below W.heap.size W w5›).bel⟩
set_option maxHeartbeats 8000000 in
set_option maxRecDepth 100000 in
theorem cmpR_sym (s n t m : List UInt8) (w : World) :
    Calls Tryz.prog 37 #[.agg #[.int .i64 2, .string ⟨#[]⟩, .string ⟨#[]⟩, .string (BA s), .string (BA n), .string ⟨#[]⟩, .slice none 0 0], .agg #[.int .i64 2, .string ⟨#[]⟩, .string ⟨#[]⟩, .string (BA t), .string (BA m), .string ⟨#[]⟩, .slice none 0 0]] w (RetI w (ordS s n t m)) := by
  have R1 : Hid (∀ wd, Calls Tryz.prog 63 #[.agg #[.int .i64 2, .string ⟨#[]⟩, .string ⟨#[]⟩, .string (BA s), .string (BA n), .string ⟨#[]⟩, .slice none 0 0]] wd (RetI wd 3)) := fun wd => rankR (.sym s n) (.slice none 0 0) wd
  have R2 : Hid (∀ wd, Calls Tryz.prog 63 #[.agg #[.int .i64 2, .string ⟨#[]⟩, .string ⟨#[]⟩, .string (BA t), .string (BA m), .string ⟨#[]⟩, .slice none 0 0]] wd (RetI wd 3)) := fun wd => rankR (.sym t m) (.slice none 0 0) wd
  have CB : Hid (∀ wd, Calls Tryz.prog 67 #[.agg #[.string (BA s), .string (BA n)], .agg #[.string (BA t), .string (BA m)]] wd (RetI wd (ordS s n t m))) := fun wd => by
    have h := cmpSymR (BA s) (BA n) (BA t) (BA m) wd; rw [LA_BA, LA_BA, LA_BA, LA_BA] at h; exact h
  generalize BA s = bs at R1 R2 CB ⊢
  generalize BA t = bt at R1 R2 CB ⊢
  generalize BA n = bn at R1 R2 CB ⊢
  generalize BA m = bm at R1 R2 CB ⊢
  go_enter Tryz.func37, Tryz.ntmps37
  go_wp2_with fail
  have T0 := BoxB.new w #[.int .i64 2, .string ⟨#[]⟩, .string ⟨#[]⟩, .string bs, .string bn, .string ⟨#[]⟩, .slice none 0 0] #[.int .i64 2, .string ⟨#[]⟩, .string ⟨#[]⟩, .string bt, .string bm, .string ⟨#[]⟩, .slice none 0 0]
  generalize (w.alloc (.cells #[.int .i64 2, .string ⟨#[]⟩, .string ⟨#[]⟩, .string bs, .string bn, .string ⟨#[]⟩, .slice none 0 0] 31)).alloc (.cells #[.int .i64 2, .string ⟨#[]⟩, .string ⟨#[]⟩, .string bt, .string bm, .string ⟨#[]⟩, .slice none 0 0] 31) = W at T0 ⊢
  have hB0 : Below W.heap.size W W.drew := (Below.refl _ _).drew
  obtain ⟨⟨c0, c1, c2, c3, c4, c5, c6⟩, _⟩ := row7 T0.b0
  obtain ⟨⟨d0, d1, d2, d3, d4, d5, d6⟩, _⟩ := row7 T0.b1
  have HT0 := Lib.hid T0
  clear T0
  go_region_held3 (fun W' => (W'.cell? ⟨w.heap.size, 0, none⟩ = some (.int .i64 2) ∧ W'.cell? ⟨w.heap.size, 1, none⟩ = some (.string ⟨#[]⟩) ∧ W'.cell? ⟨w.heap.size, 2, none⟩ = some (.string ⟨#[]⟩) ∧ W'.cell? ⟨w.heap.size, 3, none⟩ = some (.string bs) ∧ W'.cell? ⟨w.heap.size, 4, none⟩ = some (.string bn) ∧ W'.cell? ⟨w.heap.size, 5, none⟩ = some (.string ⟨#[]⟩) ∧ W'.cell? ⟨w.heap.size, 6, none⟩ = some (.slice none 0 0)) ∧ (W'.cell? ⟨w.heap.size + 1, 0, none⟩ = some (.int .i64 2) ∧ W'.cell? ⟨w.heap.size + 1, 1, none⟩ = some (.string ⟨#[]⟩) ∧ W'.cell? ⟨w.heap.size + 1, 2, none⟩ = some (.string ⟨#[]⟩) ∧ W'.cell? ⟨w.heap.size + 1, 3, none⟩ = some (.string bt) ∧ W'.cell? ⟨w.heap.size + 1, 4, none⟩ = some (.string bm) ∧ W'.cell? ⟨w.heap.size + 1, 5, none⟩ = some (.string ⟨#[]⟩) ∧ W'.cell? ⟨w.heap.size + 1, 6, none⟩ = some (.slice none 0 0))) (first | exact ⟨(row7 (HT0.out.below ‹Below W.heap.size W _›).b0).1, (row7 (HT0.out.below ‹Below W.heap.size W _›).b1).1⟩ | go_keep)
    (first
      | (go_at_call_of 63 (Value.agg #[.int .i64 2, .string ⟨#[]⟩, .string ⟨#[]⟩, .string bs, .string bn, .string ⟨#[]⟩, .slice none 0 0]); refine (R1.out _).mono ?_; rintro e w3 ⟨rfl, hb3⟩; have hB3 := chain2 ‹Below W.heap.size W _› hb3 (Nat.le_refl _); clear hb3)
      | (go_at_call_of 63 (Value.agg #[.int .i64 2, .string ⟨#[]⟩, .string ⟨#[]⟩, .string bt, .string bm, .string ⟨#[]⟩, .slice none 0 0]); refine (R2.out _).mono ?_; rintro e w4 ⟨rfl, hb4⟩; have hB4 := chain2 ‹Below W.heap.size W _› hb4 (Nat.le_refl _); clear hb4))
  clear c0 c1 c2 c3 c4 c5 c6 d0 d1 d2 d3 d4 d5 d6
  obtain ⟨⟨c0, c1, c2, c3, c4, c5, c6⟩, _⟩ := row7 (HT0.out.below ‹Below W.heap.size W w4›).b0
  obtain ⟨⟨d0, d1, d2, d3, d4, d5, d6⟩, _⟩ := row7 (HT0.out.below ‹Below W.heap.size W w4›).b1
  go_wp2_with fail
  refine (R1.out _).mono ?_
  rintro e w5 ⟨rfl, hb5⟩
  have hB5 := chain2 ‹Below W.heap.size W w4› hb5 (Nat.le_refl _)
  clear hb5 c0 c1 c2 c3 c4 c5 c6 d0 d1 d2 d3 d4 d5 d6
  obtain ⟨⟨c0, c1, c2, c3, c4, c5, c6⟩, _⟩ := row7 (HT0.out.below ‹Below W.heap.size W w5›).b0
  obtain ⟨⟨d0, d1, d2, d3, d4, d5, d6⟩, _⟩ := row7 (HT0.out.below ‹Below W.heap.size W w5›).b1
  go_wp2_with fail
  refine (CB.out _).mono ?_
  rintro e w6 ⟨rfl, hb6⟩
  have hB6 := chain2 hB5 hb6 (Nat.le_refl _)
  clear hb6
  go_wp2
  go_ret
  exact ⟨rfl, (HT0.out.below ‹Below W.heap.size W w6›).bel⟩
end Go.Proofs.YtfnkmgipjemkdaaGreatDoor

/- The reference's Compare: numbers. -/
namespace Go.Proofs.YtfnkmgipjemkdaaGreatDoor
open Go Go.RowKit
set_option linter.unusedVariables false

set_option maxHeartbeats 8000000 in
set_option maxRecDepth 100000 in
theorem cmpR_num (d : Nat) (hd : d ≤ 1000) (x y : Rat) (hx : Bd d x) (hy : Bd d y) (w : World) :
    Calls Tryz.prog 37 #[.agg #[.int .i64 1, .string (nt x), .string (dt x), .string ⟨#[]⟩, .string ⟨#[]⟩, .string ⟨#[]⟩, .slice none 0 0], .agg #[.int .i64 1, .string (nt y), .string (dt y), .string ⟨#[]⟩, .string ⟨#[]⟩, .string ⟨#[]⟩, .slice none 0 0]] w (RetI w (ordQ x y)) := by
  have R1 : Hid (∀ wd, Calls Tryz.prog 63 #[.agg #[.int .i64 1, .string (nt x), .string (dt x), .string ⟨#[]⟩, .string ⟨#[]⟩, .string ⟨#[]⟩, .slice none 0 0]] wd (RetI wd 1)) := fun wd => rankR (.num x) (.slice none 0 0) wd
  have R2 : Hid (∀ wd, Calls Tryz.prog 63 #[.agg #[.int .i64 1, .string (nt y), .string (dt y), .string ⟨#[]⟩, .string ⟨#[]⟩, .string ⟨#[]⟩, .slice none 0 0]] wd (RetI wd 1)) := fun wd => rankR (.num y) (.slice none 0 0) wd
  have b1 := bd_nt hx
  have b2 := bd_dt hx
  have b3 := bd_nt hy
  have b4 := bd_dt hy
  have s1 : (BA (text (val (LA (nt x)) * val (LA (dt y))))).size ≤ 3000 := by
    rw [val_nt, val_dt, BA_size]
    refine Nat.le_trans (text_length (k := d + d) ?_) (by omega)
    rw [Int.natAbs_mul]
    exact lt_pow_mul hx.1 hy.2
  have s2 : (BA (text (val (LA (nt y)) * val (LA (dt x))))).size ≤ 3000 := by
    rw [val_nt, val_dt, BA_size]
    refine Nat.le_trans (text_length (k := d + d) ?_) (by omega)
    rw [Int.natAbs_mul]
    exact lt_pow_mul hy.1 hx.2
  have CB : Hid (∀ wd, Calls Tryz.prog 64 #[.string (BA (text (val (LA (nt x)) * val (LA (dt y))))), .string (BA (text (val (LA (nt y)) * val (LA (dt x)))))] wd (RetI wd (ordQ x y))) := fun wd => by
    have h := compareR (BA (text (val (LA (nt x)) * val (LA (dt y))))) (BA (text (val (LA (nt y)) * val (LA (dt x))))) wd (by omega) (by omega)
    rw [LA_BA, LA_BA, val_text, val_text] at h
    have e : ordI (val (LA (nt x)) * val (LA (dt y))) (val (LA (nt y)) * val (LA (dt x))) = ordQ x y := by rw [val_nt, val_dt, val_nt, val_dt, ordQ_eq]
    rw [e] at h
    exact h
  clear hx hy s1 s2
  generalize ordQ x y = r at CB ⊢
  generalize nt x = nx at b1 R1 CB ⊢
  generalize dt x = dx at b2 R1 CB ⊢
  generalize nt y = ny at b3 R2 CB ⊢
  generalize dt y = dy at b4 R2 CB ⊢
  go_enter Tryz.func37, Tryz.ntmps37
  go_wp2_with fail
  have T0 := BoxB.new w #[.int .i64 1, .string nx, .string dx, .string ⟨#[]⟩, .string ⟨#[]⟩, .string ⟨#[]⟩, .slice none 0 0] #[.int .i64 1, .string ny, .string dy, .string ⟨#[]⟩, .string ⟨#[]⟩, .string ⟨#[]⟩, .slice none 0 0]
  generalize (w.alloc (.cells #[.int .i64 1, .string nx, .string dx, .string ⟨#[]⟩, .string ⟨#[]⟩, .string ⟨#[]⟩, .slice none 0 0] 31)).alloc (.cells #[.int .i64 1, .string ny, .string dy, .string ⟨#[]⟩, .string ⟨#[]⟩, .string ⟨#[]⟩, .slice none 0 0] 31) = W at T0 ⊢
  have hB0 : Below W.heap.size W W.drew := (Below.refl _ _).drew
  obtain ⟨⟨c0, c1, c2, c3, c4, c5, c6⟩, _⟩ := row7 T0.b0
  obtain ⟨⟨d0, d1, d2, d3, d4, d5, d6⟩, _⟩ := row7 T0.b1
  have HT0 := Lib.hid T0
  clear T0
  go_region_held3 (fun W' => (W'.cell? ⟨w.heap.size, 0, none⟩ = some (.int .i64 1) ∧ W'.cell? ⟨w.heap.size, 1, none⟩ = some (.string nx) ∧ W'.cell? ⟨w.heap.size, 2, none⟩ = some (.string dx) ∧ W'.cell? ⟨w.heap.size, 3, none⟩ = some (.string ⟨#[]⟩) ∧ W'.cell? ⟨w.heap.size, 4, none⟩ = some (.string ⟨#[]⟩) ∧ W'.cell? ⟨w.heap.size, 5, none⟩ = some (.string ⟨#[]⟩) ∧ W'.cell? ⟨w.heap.size, 6, none⟩ = some (.slice none 0 0)) ∧ (W'.cell? ⟨w.heap.size + 1, 0, none⟩ = some (.int .i64 1) ∧ W'.cell? ⟨w.heap.size + 1, 1, none⟩ = some (.string ny) ∧ W'.cell? ⟨w.heap.size + 1, 2, none⟩ = some (.string dy) ∧ W'.cell? ⟨w.heap.size + 1, 3, none⟩ = some (.string ⟨#[]⟩) ∧ W'.cell? ⟨w.heap.size + 1, 4, none⟩ = some (.string ⟨#[]⟩) ∧ W'.cell? ⟨w.heap.size + 1, 5, none⟩ = some (.string ⟨#[]⟩) ∧ W'.cell? ⟨w.heap.size + 1, 6, none⟩ = some (.slice none 0 0))) (first | exact ⟨(row7 (HT0.out.below ‹Below W.heap.size W _›).b0).1, (row7 (HT0.out.below ‹Below W.heap.size W _›).b1).1⟩ | go_keep)
    (first
      | (go_at_call_of 63 (Value.agg #[.int .i64 1, .string nx, .string dx, .string ⟨#[]⟩, .string ⟨#[]⟩, .string ⟨#[]⟩, .slice none 0 0]); refine (R1.out _).mono ?_; rintro e w3 ⟨rfl, hb3⟩; have hB3 := chain2 ‹Below W.heap.size W _› hb3 (Nat.le_refl _); clear hb3)
      | (go_at_call_of 63 (Value.agg #[.int .i64 1, .string ny, .string dy, .string ⟨#[]⟩, .string ⟨#[]⟩, .string ⟨#[]⟩, .slice none 0 0]); refine (R2.out _).mono ?_; rintro e w4 ⟨rfl, hb4⟩; have hB4 := chain2 ‹Below W.heap.size W _› hb4 (Nat.le_refl _); clear hb4))
  clear c0 c1 c2 c3 c4 c5 c6 d0 d1 d2 d3 d4 d5 d6
  obtain ⟨⟨c0, c1, c2, c3, c4, c5, c6⟩, _⟩ := row7 (HT0.out.below ‹Below W.heap.size W w4›).b0
  obtain ⟨⟨d0, d1, d2, d3, d4, d5, d6⟩, _⟩ := row7 (HT0.out.below ‹Below W.heap.size W w4›).b1
  go_wp2_with fail
  refine (R1.out _).mono ?_
  rintro e w5 ⟨rfl, hb5⟩
  have hB5 := chain2 ‹Below W.heap.size W w4› hb5 (Nat.le_refl _)
  clear hb5 c0 c1 c2 c3 c4 c5 c6 d0 d1 d2 d3 d4 d5 d6
  obtain ⟨⟨c0, c1, c2, c3, c4, c5, c6⟩, _⟩ := row7 (HT0.out.below ‹Below W.heap.size W w5›).b0
  obtain ⟨⟨d0, d1, d2, d3, d4, d5, d6⟩, _⟩ := row7 (HT0.out.below ‹Below W.heap.size W w5›).b1
  go_wp2_with fail
  have hB6 : Below W.heap.size W w5.drew := (‹Below W.heap.size W w5› : Below W.heap.size W w5).drew
  go_region_held3 (fun W' => W'.cell? ⟨w.heap.size, 1, none⟩ = some (.string nx) ∧ W'.cell? ⟨w.heap.size, 2, none⟩ = some (.string dx) ∧ W'.cell? ⟨w.heap.size + 1, 1, none⟩ = some (.string ny) ∧ W'.cell? ⟨w.heap.size + 1, 2, none⟩ = some (.string dy)) (first | exact ⟨(row7 (HT0.out.below ‹Below W.heap.size W _›).b0).1.2.1, (row7 (HT0.out.below ‹Below W.heap.size W _›).b0).1.2.2.1, (row7 (HT0.out.below ‹Below W.heap.size W _›).b1).1.2.1, (row7 (HT0.out.below ‹Below W.heap.size W _›).b1).1.2.2.1⟩ | go_keep)
    (first
      | (go_at_call 65; refine (multiplyR _ _ _ (by omega) (by omega)).mono ?_; rintro e w6 ⟨rfl, hb6⟩; have hB7 := chain2 ‹Below W.heap.size W _› hb6 (Nat.le_refl _); clear hb6)
      | (go_at_call 64; refine (CB.out _).mono ?_; rintro e w7 ⟨rfl, hb7⟩; have hB8 := chain2 ‹Below W.heap.size W _› hb7 (Nat.le_refl _); clear hb7))
  go_wp2
  go_ret
  exact ⟨rfl, (HT0.out.below ‹Below W.heap.size W w7›).bel⟩
end Go.Proofs.YtfnkmgipjemkdaaGreatDoor

/- The reference's Compare: two conses; all objects. -/
namespace Go.Proofs.YtfnkmgipjemkdaaGreatDoor
open Go Go.RowKit
set_option linter.unusedVariables false

set_option maxHeartbeats 1000000 in
set_option maxRecDepth 100000 in
theorem isCons4 (A : Option Addr) (c : Nat) (w : World) : Calls Tryz.prog 61 #[.agg #[.int .i64 4, .string ⟨#[]⟩, .string ⟨#[]⟩, .string ⟨#[]⟩, .string ⟨#[]⟩, .string ⟨#[]⟩, .slice A 2 c]] w (RetB w true) := by
  go_enter Tryz.func61, Tryz.ntmps61
  go_wp2
  go_ret
  exact ⟨rfl, Below.alloc (Below.refl _ _) (Nat.le_refl _) _⟩
set_option maxHeartbeats 8000000 in
set_option maxRecDepth 100000 in
theorem cmpR_cons (b o c b' o' c' : Nat) (x0 x1 x2 x3 x4 x5 x6 y0 y1 y2 y3 y4 y5 y6 z0 z1 z2 z3 z4 z5 z6 t0 t1 t2 t3 t4 t5 t6 : Value) (r0 r1 : Int) (hc : 2 ≤ c) (hc' : 2 ≤ c')  (w : World)
    (hbl : b < w.heap.size) (hbl' : b' < w.heap.size)
    (hx : ∀ j u, #[x0, x1, x2, x3, x4, x5, x6, y0, y1, y2, y3, y4, y5, y6][j]? = some u → w.cell? ⟨b, o + j, none⟩ = some u)
    (hz : ∀ j u, #[z0, z1, z2, z3, z4, z5, z6, t0, t1, t2, t3, t4, t5, t6][j]? = some u → w.cell? ⟨b', o' + j, none⟩ = some u)
    (ih0 : ∀ w', Below w.heap.size w w' → Calls Tryz.prog 37 #[.agg #[x0, x1, x2, x3, x4, x5, x6], .agg #[z0, z1, z2, z3, z4, z5, z6]] w' (RetI w' r0))
    (ih1 : ∀ w', Below w.heap.size w w' → Calls Tryz.prog 37 #[.agg #[y0, y1, y2, y3, y4, y5, y6], .agg #[t0, t1, t2, t3, t4, t5, t6]] w' (RetI w' r1)) :
    Calls Tryz.prog 37 #[.agg #[.int .i64 4, .string ⟨#[]⟩, .string ⟨#[]⟩, .string ⟨#[]⟩, .string ⟨#[]⟩, .string ⟨#[]⟩, .slice (some ⟨b, o, none⟩) 2 c], .agg #[.int .i64 4, .string ⟨#[]⟩, .string ⟨#[]⟩, .string ⟨#[]⟩, .string ⟨#[]⟩, .string ⟨#[]⟩, .slice (some ⟨b', o', none⟩) 2 c']] w (RetI w (next r0 r1)) := by
  have R1 : Hid (∀ wd, Calls Tryz.prog 63 #[.agg #[.int .i64 4, .string ⟨#[]⟩, .string ⟨#[]⟩, .string ⟨#[]⟩, .string ⟨#[]⟩, .string ⟨#[]⟩, .slice (some ⟨b, o, none⟩) 2 c]] wd (RetI wd 4)) := fun wd => rankR (.cons .nil .nil) (.slice (some ⟨b, o, none⟩) 2 c) wd
  have R2 : Hid (∀ wd, Calls Tryz.prog 63 #[.agg #[.int .i64 4, .string ⟨#[]⟩, .string ⟨#[]⟩, .string ⟨#[]⟩, .string ⟨#[]⟩, .string ⟨#[]⟩, .slice (some ⟨b', o', none⟩) 2 c']] wd (RetI wd 4)) := fun wd => rankR (.cons .nil .nil) (.slice (some ⟨b', o', none⟩) 2 c') wd
  have IC1 := fun wd => isCons4 (some ⟨b, o, none⟩) c wd
  have IC2 := fun wd => isCons4 (some ⟨b', o', none⟩) c' wd
  replace IC1 := Lib.hid IC1
  replace IC2 := Lib.hid IC2
  have HX := Lib.hid hx
  have HZ := Lib.hid hz
  have I0 := Lib.hid ih0
  have I1 := Lib.hid ih1
  clear hx hz ih0 ih1
  go_enter Tryz.func37, Tryz.ntmps37
  go_wp2_with fail
  have T0 := BoxB.new w #[.int .i64 4, .string ⟨#[]⟩, .string ⟨#[]⟩, .string ⟨#[]⟩, .string ⟨#[]⟩, .string ⟨#[]⟩, .slice (some ⟨b, o, none⟩) 2 c] #[.int .i64 4, .string ⟨#[]⟩, .string ⟨#[]⟩, .string ⟨#[]⟩, .string ⟨#[]⟩, .string ⟨#[]⟩, .slice (some ⟨b', o', none⟩) 2 c']
  generalize (w.alloc (.cells #[.int .i64 4, .string ⟨#[]⟩, .string ⟨#[]⟩, .string ⟨#[]⟩, .string ⟨#[]⟩, .string ⟨#[]⟩, .slice (some ⟨b, o, none⟩) 2 c] 31)).alloc (.cells #[.int .i64 4, .string ⟨#[]⟩, .string ⟨#[]⟩, .string ⟨#[]⟩, .string ⟨#[]⟩, .string ⟨#[]⟩, .slice (some ⟨b', o', none⟩) 2 c'] 31) = W at T0 ⊢
  have hB0 : Below W.heap.size W W.drew := (Below.refl _ _).drew
  obtain ⟨⟨c0, c1, c2, c3, c4, c5, c6⟩, _⟩ := row7 T0.b0
  obtain ⟨⟨d0, d1, d2, d3, d4, d5, d6⟩, _⟩ := row7 T0.b1
  have HT0 := Lib.hid T0
  clear T0
  go_region_held3 (fun W' => (W'.cell? ⟨w.heap.size, 0, none⟩ = some (.int .i64 4) ∧ W'.cell? ⟨w.heap.size, 1, none⟩ = some (.string ⟨#[]⟩) ∧ W'.cell? ⟨w.heap.size, 2, none⟩ = some (.string ⟨#[]⟩) ∧ W'.cell? ⟨w.heap.size, 3, none⟩ = some (.string ⟨#[]⟩) ∧ W'.cell? ⟨w.heap.size, 4, none⟩ = some (.string ⟨#[]⟩) ∧ W'.cell? ⟨w.heap.size, 5, none⟩ = some (.string ⟨#[]⟩) ∧ W'.cell? ⟨w.heap.size, 6, none⟩ = some (.slice (some ⟨b, o, none⟩) 2 c)) ∧ (W'.cell? ⟨w.heap.size + 1, 0, none⟩ = some (.int .i64 4) ∧ W'.cell? ⟨w.heap.size + 1, 1, none⟩ = some (.string ⟨#[]⟩) ∧ W'.cell? ⟨w.heap.size + 1, 2, none⟩ = some (.string ⟨#[]⟩) ∧ W'.cell? ⟨w.heap.size + 1, 3, none⟩ = some (.string ⟨#[]⟩) ∧ W'.cell? ⟨w.heap.size + 1, 4, none⟩ = some (.string ⟨#[]⟩) ∧ W'.cell? ⟨w.heap.size + 1, 5, none⟩ = some (.string ⟨#[]⟩) ∧ W'.cell? ⟨w.heap.size + 1, 6, none⟩ = some (.slice (some ⟨b', o', none⟩) 2 c'))) (first | exact ⟨(row7 (HT0.out.below ‹Below W.heap.size W _›).b0).1, (row7 (HT0.out.below ‹Below W.heap.size W _›).b1).1⟩ | go_keep)
    (first
      | (go_at_call_of 63 (Value.agg #[.int .i64 4, .string ⟨#[]⟩, .string ⟨#[]⟩, .string ⟨#[]⟩, .string ⟨#[]⟩, .string ⟨#[]⟩, .slice (some ⟨b, o, none⟩) 2 c]); refine (R1.out _).mono ?_; rintro e w3 ⟨rfl, hb3⟩; have hB3 := chain2 ‹Below W.heap.size W _› hb3 (Nat.le_refl _); clear hb3)
      | (go_at_call_of 63 (Value.agg #[.int .i64 4, .string ⟨#[]⟩, .string ⟨#[]⟩, .string ⟨#[]⟩, .string ⟨#[]⟩, .string ⟨#[]⟩, .slice (some ⟨b', o', none⟩) 2 c']); refine (R2.out _).mono ?_; rintro e w4 ⟨rfl, hb4⟩; have hB4 := chain2 ‹Below W.heap.size W _› hb4 (Nat.le_refl _); clear hb4))
  clear c0 c1 c2 c3 c4 c5 c6 d0 d1 d2 d3 d4 d5 d6
  obtain ⟨⟨c0, c1, c2, c3, c4, c5, c6⟩, _⟩ := row7 (HT0.out.below ‹Below W.heap.size W w4›).b0
  obtain ⟨⟨d0, d1, d2, d3, d4, d5, d6⟩, _⟩ := row7 (HT0.out.below ‹Below W.heap.size W w4›).b1
  go_wp2_with fail
  refine (R1.out _).mono ?_
  rintro e w5 ⟨rfl, hb5⟩
  have hB5 := chain2 ‹Below W.heap.size W w4› hb5 (Nat.le_refl _)
  clear hb5 c0 c1 c2 c3 c4 c5 c6 d0 d1 d2 d3 d4 d5 d6
  obtain ⟨⟨c0, c1, c2, c3, c4, c5, c6⟩, _⟩ := row7 (HT0.out.below ‹Below W.heap.size W w5›).b0
  obtain ⟨⟨d0, d1, d2, d3, d4, d5, d6⟩, _⟩ := row7 (HT0.out.below ‹Below W.heap.size W w5›).b1
  go_wp2_with fail
  refine (IC1.out _).mono ?_
  rintro e w6 ⟨rfl, hb6⟩
  have hB6 := chain2 hB5 hb6 (Nat.le_refl _)
  clear hb6 c0 c1 c2 c3 c4 c5 c6 d0 d1 d2 d3 d4 d5 d6
  obtain ⟨⟨c0, c1, c2, c3, c4, c5, c6⟩, _⟩ := row7 (HT0.out.below hB6).b0
  obtain ⟨⟨d0, d1, d2, d3, d4, d5, d6⟩, _⟩ := row7 (HT0.out.below hB6).b1
  go_wp2_with fail
  refine (IC2.out _).mono ?_
  rintro e w7 ⟨rfl, hb7⟩
  have hB7 := chain2 hB6 hb7 (Nat.le_refl _)
  clear hb7 c0 c1 c2 c3 c4 c5 c6 d0 d1 d2 d3 d4 d5 d6
  obtain ⟨⟨c0, c1, c2, c3, c4, c5, c6⟩, _⟩ := row7 (HT0.out.below hB7).b0
  obtain ⟨⟨d0, d1, d2, d3, d4, d5, d6⟩, _⟩ := row7 (HT0.out.below hB7).b1
  have hq := (HT0.out.below hB7).bel
  have k0 := (hq.cell (p := ⟨b, o + 0, none⟩) hbl).trans (HX.out 0 _ rfl)
  have k1 := (hq.cell (p := ⟨b, o + 1, none⟩) hbl).trans (HX.out 1 _ rfl)
  have k2 := (hq.cell (p := ⟨b, o + 2, none⟩) hbl).trans (HX.out 2 _ rfl)
  have k3 := (hq.cell (p := ⟨b, o + 3, none⟩) hbl).trans (HX.out 3 _ rfl)
  have k4 := (hq.cell (p := ⟨b, o + 4, none⟩) hbl).trans (HX.out 4 _ rfl)
  have k5 := (hq.cell (p := ⟨b, o + 5, none⟩) hbl).trans (HX.out 5 _ rfl)
  have k6 := (hq.cell (p := ⟨b, o + 6, none⟩) hbl).trans (HX.out 6 _ rfl)
  have m0 := (hq.cell (p := ⟨b', o' + 0, none⟩) hbl').trans (HZ.out 0 _ rfl)
  have m1 := (hq.cell (p := ⟨b', o' + 1, none⟩) hbl').trans (HZ.out 1 _ rfl)
  have m2 := (hq.cell (p := ⟨b', o' + 2, none⟩) hbl').trans (HZ.out 2 _ rfl)
  have m3 := (hq.cell (p := ⟨b', o' + 3, none⟩) hbl').trans (HZ.out 3 _ rfl)
  have m4 := (hq.cell (p := ⟨b', o' + 4, none⟩) hbl').trans (HZ.out 4 _ rfl)
  have m5 := (hq.cell (p := ⟨b', o' + 5, none⟩) hbl').trans (HZ.out 5 _ rfl)
  have m6 := (hq.cell (p := ⟨b', o' + 6, none⟩) hbl').trans (HZ.out 6 _ rfl)
  rw [Nat.add_zero] at k0 m0
  have HB7 := Lib.hid hB7
  clear hB0 hB5 hB6 hq
  go_wp2_with fail
  go_still_tail 8, (by kernel_rfl)
  change wpList _ _ _ _ _ w7.drew
  have hB8 : Hid (Below W.heap.size W w7.drew) := HB7.out.drew
  clear HB7 hB7 c0 c1 c2 c3 c4 c5 c6 d0 d1 d2 d3 d4 d5 d6 k0 k1 k2 k3 k4 k5 k6 m0 m1 m2 m3 m4 m5 m6
  generalize w7.drew = w8 at hB8 ⊢
  go_wp2_with fail
  refine (I0.out _ (HT0.out.below hB8.out).bel).mono ?_
  rintro e w9 ⟨rfl, hb9⟩
  have hB9 := Lib.hid (chain2 hB8.out hb9 (Nat.le_refl _))
  clear hb9 hB8
  by_cases h0 : r0 = 0
  · have hn : (r0 != 0) = false := by rw [h0]; rfl
    have hr : Hid (r1 = next r0 r1) := by show _ = _; unfold next; rw [if_pos h0]
    clear h0
    obtain ⟨⟨c0, c1, c2, c3, c4, c5, c6⟩, _⟩ := row7 (HT0.out.below hB9.out).b0
    obtain ⟨⟨d0, d1, d2, d3, d4, d5, d6⟩, _⟩ := row7 (HT0.out.below hB9.out).b1
    have hq := (HT0.out.below hB9.out).bel
    have k0 := (hq.cell (p := ⟨b, o + 7, none⟩) hbl).trans (HX.out 7 _ rfl)
    have k1 := (hq.cell (p := ⟨b, o + 8, none⟩) hbl).trans (HX.out 8 _ rfl)
    have k2 := (hq.cell (p := ⟨b, o + 9, none⟩) hbl).trans (HX.out 9 _ rfl)
    have k3 := (hq.cell (p := ⟨b, o + 10, none⟩) hbl).trans (HX.out 10 _ rfl)
    have k4 := (hq.cell (p := ⟨b, o + 11, none⟩) hbl).trans (HX.out 11 _ rfl)
    have k5 := (hq.cell (p := ⟨b, o + 12, none⟩) hbl).trans (HX.out 12 _ rfl)
    have k6 := (hq.cell (p := ⟨b, o + 13, none⟩) hbl).trans (HX.out 13 _ rfl)
    have m0 := (hq.cell (p := ⟨b', o' + 7, none⟩) hbl').trans (HZ.out 7 _ rfl)
    have m1 := (hq.cell (p := ⟨b', o' + 8, none⟩) hbl').trans (HZ.out 8 _ rfl)
    have m2 := (hq.cell (p := ⟨b', o' + 9, none⟩) hbl').trans (HZ.out 9 _ rfl)
    have m3 := (hq.cell (p := ⟨b', o' + 10, none⟩) hbl').trans (HZ.out 10 _ rfl)
    have m4 := (hq.cell (p := ⟨b', o' + 11, none⟩) hbl').trans (HZ.out 11 _ rfl)
    have m5 := (hq.cell (p := ⟨b', o' + 12, none⟩) hbl').trans (HZ.out 12 _ rfl)
    have m6 := (hq.cell (p := ⟨b', o' + 13, none⟩) hbl').trans (HZ.out 13 _ rfl)
    clear hq
    go_wp2_with fail
    go_still_tail 8, (by kernel_rfl)
    change wpList _ _ _ _ _ w9.drew
    have hB10 : Hid (Below W.heap.size W w9.drew) := hB9.out.drew
    clear hB9 c0 c1 c2 c3 c4 c5 c6 d0 d1 d2 d3 d4 d5 d6 k0 k1 k2 k3 k4 k5 k6 m0 m1 m2 m3 m4 m5 m6
    generalize w9.drew = w10 at hB10 ⊢
    go_wp2_with fail
    refine (I1.out _ (HT0.out.below hB10.out).bel).mono ?_
    rintro e w11 ⟨rfl, hb11⟩
    have hB11 := Lib.hid (chain2 hB10.out hb11 (Nat.le_refl _))
    clear hb11 hB10
    go_wp2
    go_ret
    exact ⟨ret_int hr.out, (HT0.out.below hB11.out).bel⟩
  · have hn : (r0 != 0) = true := by rw [bne_iff_ne]; exact h0
    have hr : Hid (r0 = next r0 r1) := by show _ = _; unfold next; rw [if_neg h0]
    clear h0
    go_wp2
    go_ret
    exact ⟨ret_int hr.out, (HT0.out.below hB9.out).bel⟩

/-- The reference's Compare: the order of objects. -/
theorem compareO (d : Nat) (hd : d ≤ 1000) : ∀ (a a' : Ob) (p p' : Value) (w : World) (S : Nat → Prop), In S w → Pair w S a p → Pair w S a' p' → a.bd d → a'.bd d →
    Calls Tryz.prog 37 #[vO a p, vO a' p'] w (RetI w (ordO a a')) := by
  intro a
  induction a with
  | num x =>
    intro a' p p' w S hS h h' hb hb'
    cases a' with
    | num y =>
      obtain rfl := h.flat rfl
      obtain rfl := h'.flat rfl
      exact cmpR_num d hd x y hb hb' w
    | _ => exact cmpR_ne _ _ _ _ w (by simp [Ob.rank])
  | str s =>
    intro a' p p' w S hS h h' hb hb'
    cases a' with
    | str t =>
      obtain rfl := h.flat rfl
      obtain rfl := h'.flat rfl
      exact cmpR_str s t w
    | _ => exact cmpR_ne _ _ _ _ w (by simp [Ob.rank])
  | sym s n =>
    intro a' p p' w S hS h h' hb hb'
    cases a' with
    | sym t m =>
      obtain rfl := h.flat rfl
      obtain rfl := h'.flat rfl
      exact cmpR_sym s n t m w
    | _ => exact cmpR_ne _ _ _ _ w (by simp [Ob.rank])
  | cons a e iha ihe =>
    intro a' p p' w S hS h h' hb hb'
    cases a' with
    | cons a2 e2 =>
      obtain ⟨g, o, c, qa, qd, rfl, hc, hg, hx, h1, h2⟩ := h
      obtain ⟨g', o', c', qa', qd', rfl, hc', hg', hx', h1', h2'⟩ := h'
      have k1 := fun w' (hw : Below w.heap.size w w') => iha a2 qa qa' w' S (hS.later hw.size) (h1.below hS hw) (h1'.below hS hw) hb.1 hb'.1
      have k2 := fun w' (hw : Below w.heap.size w w') => ihe e2 qd qd' w' S (hS.later hw.size) (h2.below hS hw) (h2'.below hS hw) hb.2 hb'.2
      unfold vO at k1 k2
      obtain ⟨x0, x1, x2, x3, x4, x5, ea⟩ := cells7 a qa
      obtain ⟨y0, y1, y2, y3, y4, y5, ed⟩ := cells7 e qd
      obtain ⟨z0, z1, z2, z3, z4, z5, ea'⟩ := cells7 a2 qa'
      obtain ⟨t0, t1, t2, t3, t4, t5, ed'⟩ := cells7 e2 qd'
      rw [ea, ed] at hx
      rw [ea', ed'] at hx'
      rw [ea, ea'] at k1
      rw [ed, ed'] at k2
      exact cmpR_cons g o c g' o' c' x0 x1 x2 x3 x4 x5 qa y0 y1 y2 y3 y4 y5 qd z0 z1 z2 z3 z4 z5 qa' t0 t1 t2 t3 t4 t5 qd' _ _ hc hc' w (hS g hg.1) (hS g' hg'.1)
        (fun j u h => hx j u (by simpa using h)) (fun j u h => hx' j u (by simpa using h)) k1 k2
    | _ => exact cmpR_ne _ _ _ _ w (by simp [Ob.rank])
end Go.Proofs.YtfnkmgipjemkdaaGreatDoor
