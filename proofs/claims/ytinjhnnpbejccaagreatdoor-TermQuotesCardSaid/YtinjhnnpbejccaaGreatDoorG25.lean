/- Regions that draw their order inside a fence (a round of a range over a function): by an invariant, and with memory apart. No program is named here. -/
import Derived.Test.YtinjhnnpbejccaaGreatDoorG16
import Derived.OrdersIn
import Derived.TacticsIn
import Derived.OwnWalkIn
namespace Go.Proofs.YtinjhnnpbejccaaGreatDoor
open Go Go.RowKit
set_option linter.unusedVariables false
def calmB : Op → Bool
 | .move _ | .assign _ | .pick _ _ _ | .alloc _ | .box _ _ | .build _ _ | .buildSlice _ _ _ | .load _ _ | .store _ _ _ | .binOp _ _ _ _ _ | .unOp _ _ _ | .convert _ _ _ | .slice _ _ _ _ _ | .fieldAddr _ _ _ | .field _ _ _ | .indexAddr _ _ _ | .index _ _ _ | .lookup _ _ _ _ | .mapUpdate _ _ _ _ | .extract _ _ => true
 | _ => false
section
variable {F : Fence} {n : Nat} {P : Program} {o : Oper} {a : Act} {w : World} {next : Act → World → Prop} {Q : Exit → Act → World → Prop} {ops : Array Oper} {md : Region.Mode}
theorem calm_about (hc : calmB o.op = true) (ρ : Operand → Value) (w : World) : o.about P w ρ = none := by
 unfold Oper.about
 cases ho : o.op <;> first | rfl | (rw [ho] at hc; cases hc)
theorem calm_defer (hc : calmB o.op = true) : ∀ c, o.op ≠ .defer c := by
 intro c e
 rw [e] at hc; cases hc
def CalmR : Result Next → Prop
 | .ok (.value _) _ => True
 | .ok .skip _ => True
 | .halt _ _ => True
 | _ => False
theorem calm_v (x : Sem Value) (w : World) : CalmR ((do pure (Next.value (← x)) : Sem Next).run P w) := by
 simp only [Sem.run_bind, Sem.run_pure]
 cases x.run P w <;> simp [Result.andThen, CalmR]
theorem calm_u (x : Sem Unit) (w : World) : CalmR ((do x; pure Next.skip : Sem Next).run P w) := by
 simp only [Sem.run_bind, Sem.run_pure]
 cases x.run P w <;> simp [Result.andThen, CalmR]
theorem calm_run (hc : calmB o.op = true) (ρ : Operand → Value) (w : World) : CalmR ((execOp ρ o).run P w) := by
 unfold execOp
 cases ho : o.op <;> first
  | (rw [ho] at hc; cases hc; done)
  | exact calm_v _ _
  | exact calm_u _ _
  | (simp only [Sem.run_pure]; trivial)
  | (simp only [Sem.run_bind, Sem.run_pure]
     generalize Sem.run P _ w = r
     cases r <;> simp [Result.andThen, CalmR])
theorem wpIn_of_calm (hc : calmB o.op = true) (h : o.wp P a w next Q) : o.wpIn F n P a w next Q := by
 unfold Oper.wp at h
 unfold Oper.wpIn
 refine ⟨fun f hf => (by rw [calm_about hc] at hf; cases hf), ?_⟩
 rw [Oper.semAt_plain F _ _ (calm_defer hc)]
 have hk := calm_run (P := P) hc a.eval w
 generalize (execOp a.eval o).run P w = r at *
 cases r with
 | ok x w' => cases x <;> first | exact h | exact hk.elim
 | halt x w' => cases x <;> exact h
theorem wpOpIn_step {i : Nat} {K : Act → World → Prop} (ho : ops[i]? = some o) (hc : calmB o.op = true)
 (h : ∀ K' : Act → World → Prop, (∀ a w, K a w → K' a w) → if Region.wanted o (yielded ops a.tmps) = true then Oper.wp P o a w K' Q else K' (a.put o.dst undef) w) : wpOpIn F n P ops Q i K a w := by
 have := h K (fun _ _ h => h)
 unfold wpOpIn
 rw [ho]
 show if Region.wanted o (yielded ops a.tmps) = true then _ else _
 split
 · rename_i hw; rw [if_pos hw] at this; exact wpIn_of_calm hc this
 · rename_i hw; rw [if_neg hw] at this; exact ⟨fun f hf => (by rw [calm_about hc] at hf; cases hf), this⟩
def noCall : Op → Bool
 | .call _ => false
 | _ => true
theorem noCall_about (hc : noCall o.op = true) (ρ : Operand → Value) (w : World) : o.about P w ρ = none := by
 unfold Oper.about
 cases ho : o.op <;> first | rfl | (rw [ho] at hc; cases hc)
theorem gwIn_skip {i : Nat} {K : Act → World → Prop} (ho : ops[i]? = some o) (hc : noCall o.op = true) (hw : Region.wanted o (yielded ops a.tmps) = false) (hK : K (a.put o.dst undef) w) : wpOpIn F n P ops Q i K a w := by
 unfold wpOpIn
 rw [ho]
 show if Region.wanted o (yielded ops a.tmps) = true then _ else _
 rw [hw]
 exact ⟨fun f hf => (by rw [noCall_about hc] at hf; cases hf), hK⟩
theorem gwIn_nil {i : Nat} {K : Act → World → Prop} (ho : ops[i]? = some o) (hw : Region.wanted o (yielded ops a.tmps) = true) (s : Tmp) (p : Addr) (hop : o.op = .nilCheck (.tmp s)) (hx : a.tmps[s]? = some (.pointer (some p))) (hK : K (a.put o.dst (.pointer (some p))) w) : wpOpIn F n P ops Q i K a w := by
 unfold wpOpIn
 rw [ho]
 show if Region.wanted o (yielded ops a.tmps) = true then _ else _
 rw [hw]
 show o.wpIn F n P a w K Q
 unfold Oper.wpIn
 refine ⟨fun f hf => (by rw [noCall_about (by rw [hop]; rfl)] at hf; cases hf), ?_⟩
 rw [Oper.semAt_plain F _ _ (by rw [hop]; intro c hc'; cases hc')]
 have e : a.eval (.tmp s) = .pointer (some p) := by
  show a.tmps.getD s undef = _
  rw [Array.getD_eq_getD_getElem?, hx]
  rfl
 simp only [execOp, hop, e, Sem.run_pure]
 exact hK
theorem wpAnyIn_of_seq {Q' : Exit → Act → World → Prop} : ∀ (l : List Oper) (k : Nat) (listed : Array Bool) (a : Act) (w : World), (∀ j, l[j]? = ops[k + j]?) →
 Region.seqB md ops l.length k listed = true → wpListIn F n P ops Q' l a w → wpAnyIn F n P md ops Q' l.length listed a w
 | [], _, _, _, _, _, hB, h => ⟨by simpa [Region.seqB] using hB, h⟩
 | o :: l, k, listed, a, w, hl, hB, h => by
  have h0 : ops[k]? = some o := by simpa using (hl 0).symm
  simp only [List.length_cons, Region.seqB, Bool.and_eq_true, decide_eq_true_eq] at hB
  refine ⟨fun h1 => (by rw [hB.1] at h1; cases h1), fun i hi => ?_⟩
  rw [hB.1] at hi
  have hik : i = k := by simpa using hi
  subst hik
  have hw : wpOpIn F n P ops Q' i (wpListIn F n P ops Q' l) a w := by unfold wpOpIn; simp only [h0]; exact h
  exact wpOpIn_mono (fun a' w' h' => wpAnyIn_of_seq l (i + 1) _ a' w' (fun j => by have := hl (j + 1); simpa [Nat.add_assoc, Nat.add_comm 1 j] using this) hB.2 h') hw

theorem wpAnyIn_inv {m : Nat} {Inv : Array Bool → Act → World → Prop} (hn : m < ops.size) (hs : Region.sinkB md ops m = true) (hc : Region.chainB md ops m = true) (he : eldB md ops m = true) (hq : Region.seqB md ops (ops.size - m) m (fullHead m (ops.size - m)) = true)
 (step : ∀ listed a w i, i < m → i ∈ Region.ready md ops listed → Inv listed a w → wpOpIn F n P ops Q i (fun a' w' => Inv (listed.setIfInBounds i true) a' w') a w)
 (done : ∀ a w, Inv (fullHead m (ops.size - m)) a w → wpListIn F n P ops Q (ops.toList.drop m) a w) :
 ∀ (f : Nat) (listed : Array Bool) (a : Act) (w : World), HeadInv md ops m listed → unl listed m = f → Inv listed a w → wpAnyIn F n P md ops Q (f + (ops.size - m)) listed a w
 | 0, listed, a, w, inv, hu, hI => by
  have e := full_of inv hn hu
  subst e
  rw [Nat.zero_add]
  have h := wpAnyIn_of_seq (F := F) (n := n) (P := P) (md := md) (Q' := Q) (ops.toList.drop m) m (fullHead m (ops.size - m)) a w (fun j => by simp [List.getElem?_drop]) (by simpa using hq) (done a w hI)
  simpa using h
 | f + 1, listed, a, w, inv, hu, hI => by
  rw [show f + 1 + (ops.size - m) = (f + (ops.size - m)) + 1 by omega]
  obtain ⟨i0, hi0, hun0, hmin⟩ := unl_pos (listed := listed) (n := m) (by omega)
  refine ⟨fun hr => ?_, fun i hi => ?_⟩
  · exfalso
    have hmem : i0 ∈ Region.ready md ops listed := by
     rw [mem_ready]
     have h1 := List.all_eq_true.1 he i0 (List.mem_range.2 hi0)
     have hlt : i0 < ops.size := by omega
     rw [Array.getElem?_eq_getElem hlt] at h1
     refine ⟨hun0, ops[i0], Array.getElem?_eq_getElem hlt, fun e hem hb => ?_⟩
     have h2 := (Array.all_eq_true_iff_forall_mem.1 h1) e hem
     rw [hb] at h2
     simp only [Bool.not_true, Bool.false_or, decide_eq_true_eq] at h2
     have h3 := hmin e.on h2
     have h4 : e.on < listed.size := by rw [inv.size]; omega
     simp [h4] at h3 ⊢
     exact h3
    rw [hr] at hmem
    cases hmem
  · have hin : i < m := by
     rcases Nat.lt_or_ge i m with h | h
     · exact h
     · exact absurd hi (tail_waits hs hc hn inv _ i0 rfl hi0 hun0 i h)
    have hui := (mem_ready.1 hi).1
    exact wpOpIn_mono (fun a' w' hI' => wpAnyIn_inv hn hs hc he hq step done f _ a' w' (inv.set hi hin) (by have := unl_set hui hin; omega) hI') (step listed a w i hin hi hI)

theorem wpIn_region_inv {id : Nat} {l : List Oper} (m : Nat) (hm : P.follows .mixedOrders = true) (hB : invB .any l.toArray m = true) (Inv : Array Bool → Act → World → Prop)
 (h0 : Inv (Array.replicate l.length false) a w.drew)
 (step : ∀ listed a w i, i < m → i ∈ Region.ready .any l.toArray listed → Inv listed a w → wpOpIn F n P l.toArray Q i (fun a' w' => Inv (listed.setIfInBounds i true) a' w') a w)
 (done : ∀ a w, Inv (fullHead m (l.length - m)) a w → wpListIn F n P l.toArray Q (l.drop m) a w) : (Code.region id l.toArray true).wpIn F n P Q a w := by
 simp only [invB, Bool.and_eq_true, decide_eq_true_eq] at hB
 obtain ⟨⟨⟨⟨hn, hs⟩, hc⟩, he⟩, hq⟩ := hB
 have inv0 : HeadInv .any l.toArray m (Array.replicate l.toArray.size false) :=
  ⟨by simp, fun j oj _ hl => (by rw [getD_replicate_false] at hl; cases hl), fun t _ ht => getD_in (by simpa using ht) (getD_replicate_false _ _)⟩
 have hu : unl (Array.replicate l.toArray.size false) m = m := by
  have : ∀ k, k ≤ m → unl (Array.replicate l.toArray.size false) k = k := by
   intro k
   induction k with
   | zero => intro _; rfl
   | succ k ih =>
    intro hk
    unfold unl
    have hk2 : k < (Array.replicate l.toArray.size false).size := by simp; simp at hn; omega
    rw [ih (by omega), getD_in hk2 (getD_replicate_false _ _)]
    simp
  exact this m (Nat.le_refl _)
 refine wpIn_region_any hm ?_
 have H := wpAnyIn_inv (F := F) (n := n) (P := P) (Q := Q) (Inv := Inv) hn hs hc he hq step (by simpa using done) m _ a { w with drawn := w.drawn + 1 } inv0 hu (by simpa using h0)
 rw [show m + (l.toArray.size - m) = l.toArray.size by omega] at H
 exact H
theorem wpIn_region_grow {id : Nat} {a0 : Act} {w0 : World} {l : List Oper} (m : Nat) (hm : P.follows .mixedOrders = true) (hB : invB .any l.toArray m = true)
 (d : Nat → Nat) (R : Nat → Value → Nat → Nat → World → Prop) (hR : ∀ i x l m w w', R i x l m w → m ≤ w.heap.size → Below w.heap.size w w' → R i x l m w')
 (hd : ∀ i j, i < m → j < m → d i = d j → i = j) (hds : ∀ i, i < m → d i < a0.tmps.size)
 (step : ∀ i, i < m → ∀ (a : Act) (w : World) (v : Nat → Value) (lo hi : Nat → Nat), (∀ s, (∀ j, j < m → d j ≠ s) → a.tmps[s]? = a0.tmps[s]?) → Below w0.heap.size w0 w →
   (∀ j, j < m → Region.waitsFor .any l.toArray i j = true → a.tmps[d j]? = some (v j) ∧ R j (v j) (lo j) (hi j) w ∧ w0.heap.size ≤ lo j ∧ hi j ≤ w.heap.size) →
   wpOpIn F n P l.toArray Q i (fun a' w' => ∃ x, a' = a.put (some (d i)) x ∧ Below w.heap.size w w' ∧ R i x w.heap.size w'.heap.size w') a w)
 (done : ∀ (a : Act) (w : World) (v : Nat → Value) (lo hi : Nat → Nat), a.defers = a0.defers → a.tmps.size = a0.tmps.size → (∀ s, (∀ j, j < m → d j ≠ s) → a.tmps[s]? = a0.tmps[s]?) → Below w0.heap.size w0 w →
   (∀ j, j < m → a.tmps[d j]? = some (v j) ∧ R j (v j) (lo j) (hi j) w ∧ w0.heap.size ≤ lo j ∧ hi j ≤ w.heap.size) → (∀ i j, i < m → j < m → i ≠ j → hi i ≤ lo j ∨ hi j ≤ lo i) → wpListIn F n P l.toArray Q (l.drop m) a w) :
 (Code.region id l.toArray true).wpIn F n P Q a0 w0 := by
 have hn : m < l.length := by
  simp only [invB, Bool.and_eq_true, decide_eq_true_eq] at hB
  simpa using hB.1.1.1.1
 refine wpIn_region_inv m hm hB (fun listed a w => listed.size = l.length ∧ ∃ v lo hi, Grow m d R a0 w0 listed a w v lo hi) ⟨by simp, fun _ => undef, fun _ => 0, fun _ => 0, rfl, rfl, fun _ _ => rfl, ⟨rfl, rfl, rfl, Nat.le_refl _, fun _ _ => rfl⟩, fun i hi hl => ?_, fun i j hi hj _ hl => ?_⟩ ?_ ?_
 · have : (Array.replicate l.length false).getD i true = false := by
    have hlt : i < l.length := by omega
    simp [hlt]
   rw [this] at hl; cases hl
 · have : (Array.replicate l.length false).getD i true = false := by
    have hlt : i < l.length := by omega
    simp [hlt]
   rw [this] at hl; cases hl
 · rintro listed a w i hi hr ⟨hsz, v, lo, hi', hG⟩
   obtain ⟨hun, oi, hoi, hall⟩ := mem_ready.1 hr
   refine wpOpIn_mono ?_ (step i hi a w v lo hi' hG.other hG.below (fun j hj hw => ?_))
   · rintro a' w' ⟨x, rfl, hb, hx⟩
     exact ⟨by simpa using hsz, _, _, _, hG.step hR hd hds hi (by omega) hun hb hx⟩
   · obtain ⟨oj, hoj, e, he, hbn, hon⟩ := Region.waitsFor_spec hw
     have : oj = oi := Option.some.inj (hoj.symm.trans hoi)
     subst this
     have hlj := hall e he hbn
     rw [hon] at hlj
     have hlj' : listed.getD j true = true := by
      have hjl : j < listed.size := by omega
      simp [hjl] at hlj ⊢
      exact hlj
     obtain ⟨h1, h2, h3, h4, h5⟩ := hG.slot j hj hlj'
     exact ⟨h1, h2, h3, h5⟩
 · rintro a w ⟨hsz, v, lo, hi, hG⟩
   have hfull : ∀ i, i < m → (fullHead m (l.length - m)).getD i true = true := fun i hi => by
    have hlt : i < (fullHead m (l.length - m)).size := by simp [fullHead]; omega
    simp [fullHead, hi, List.getElem?_append]
   exact done a w v lo hi hG.defers hG.size hG.other hG.below (fun j hj => by
    obtain ⟨h1, h2, h3, h4, h5⟩ := hG.slot j hj (hfull j hj)
    exact ⟨h1, h2, h3, h5⟩) (fun i j hi hj hne => hG.apart i j hi hj hne (hfull i hi) (hfull j hj))
end
end Go.Proofs.YtinjhnnpbejccaaGreatDoor
