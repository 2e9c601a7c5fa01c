/- A region that draws its order, whose head makes memory: each operation's memory lies apart from the others', whichever order is drawn. No program is named here. -/
import Derived.Test.YtinjhnnpbejccaaGreatDoorG14
import Derived.Below
namespace Go.Proofs.YtinjhnnpbejccaaGreatDoor
open Go Go.RowKit
set_option linter.unusedVariables false
section
variable {P : Program} {Q : Exit → Act → World → Prop}
structure Grow (n : Nat) (d : Nat → Nat) (R : Nat → Value → Nat → Nat → World → Prop) (a0 : Act) (w0 : World) (listed : Array Bool) (a : Act) (w : World) (v : Nat → Value) (lo hi : Nat → Nat) : Prop where
 defers : a.defers = a0.defers
 size : a.tmps.size = a0.tmps.size
 other : ∀ s, (∀ i, i < n → d i ≠ s) → a.tmps[s]? = a0.tmps[s]?
 below : Below w0.heap.size w0 w
 slot : ∀ i, i < n → listed.getD i true = true → a.tmps[d i]? = some (v i) ∧ R i (v i) (lo i) (hi i) w ∧ w0.heap.size ≤ lo i ∧ lo i ≤ hi i ∧ hi i ≤ w.heap.size
 apart : ∀ i j, i < n → j < n → i ≠ j → listed.getD i true = true → listed.getD j true = true → hi i ≤ lo j ∨ hi j ≤ lo i

theorem put_tmps (a : Act) (s : Nat) (x : Value) : (a.put (some s) x).tmps = a.tmps.setIfInBounds s x ∧ (a.put (some s) x).defers = a.defers := ⟨rfl, rfl⟩

theorem Grow.step {n : Nat} {d : Nat → Nat} {R : Nat → Value → Nat → Nat → World → Prop} {a0 : Act} {w0 : World} {listed : Array Bool} {a : Act} {w w' : World} {v : Nat → Value} {lo hi : Nat → Nat}
 (h : Grow n d R a0 w0 listed a w v lo hi) (hR : ∀ i x l m w w', R i x l m w → m ≤ w.heap.size → Below w.heap.size w w' → R i x l m w') (hd : ∀ i j, i < n → j < n → d i = d j → i = j) (hds : ∀ i, i < n → d i < a0.tmps.size)
 {i : Nat} (hi0 : i < n) (hl : i < listed.size) (hun : listed.getD i true = false) {x : Value} (hb : Below w.heap.size w w') (hx : R i x w.heap.size w'.heap.size w') :
 Grow n d R a0 w0 (listed.setIfInBounds i true) (a.put (some (d i)) x) w' (fun j => if j = i then x else v j) (fun j => if j = i then w.heap.size else lo j) (fun j => if j = i then w'.heap.size else hi j) := by
 have hget : ∀ j, (listed.setIfInBounds i true).getD j true = true → j ≠ i → listed.getD j true = true := fun j hj hne => by
  rwa [getD_set_ne true (Ne.symm hne)] at hj
 refine ⟨h.defers, ?_, fun s hs => ?_, h.below.trans (hb.mono h.below.size), fun j hj hlj => ?_, fun j k hj hk hne hlj hlk => ?_⟩
 · rw [(put_tmps a (d i) x).1, Array.size_setIfInBounds]; exact h.size
 · rw [(put_tmps a (d i) x).1, Array.getElem?_setIfInBounds_ne (hs i hi0)]; exact h.other s hs
 · by_cases hji : j = i
   · subst hji
     simp only [if_true]
     refine ⟨?_, hx, h.below.size, hb.size, Nat.le_refl _⟩
     rw [(put_tmps a (d j) x).1, Array.getElem?_setIfInBounds_self_of_lt (by rw [h.size]; exact hds j hj)]
   · simp only [if_neg hji]
     obtain ⟨h1, h2, h3, h4, h5⟩ := h.slot j hj (hget j hlj hji)
     refine ⟨?_, hR j _ _ _ w w' h2 h5 hb, h3, h4, Nat.le_trans h5 hb.size⟩
     rw [(put_tmps a (d i) x).1, Array.getElem?_setIfInBounds_ne (fun e => hji (hd j i hj hi0 e.symm))]
     exact h1
 · by_cases hji : j = i
   · subst hji
     have hkj : ¬ k = j := fun e => hne e.symm
     simp only [if_true, if_neg hkj]
     exact .inr (h.slot k hk (hget k hlk hkj)).2.2.2.2
   · by_cases hki : k = i
     · subst hki
       simp only [if_true, if_neg hji]
       exact .inl (h.slot j hj (hget j hlj hji)).2.2.2.2
     · simp only [if_neg hji, if_neg hki]
       exact h.apart j k hj hk hne (hget j hlj hji) (hget k hlk hki)
theorem wp_region_grow {id : Nat} {a0 : Act} {w0 : World} {l : List Oper} (n : Nat) (hm : P.follows .mixedOrders = true) (hB : invB .any l.toArray n = true)
 (d : Nat → Nat) (R : Nat → Value → Nat → Nat → World → Prop) (hR : ∀ i x l m w w', R i x l m w → m ≤ w.heap.size → Below w.heap.size w w' → R i x l m w')
 (hd : ∀ i j, i < n → j < n → d i = d j → i = j) (hds : ∀ i, i < n → d i < a0.tmps.size)
 (step : ∀ i, i < n → ∀ (a : Act) (w : World) (v : Nat → Value) (lo hi : Nat → Nat), (∀ s, (∀ j, j < n → d j ≠ s) → a.tmps[s]? = a0.tmps[s]?) → Below w0.heap.size w0 w →
   (∀ j, j < n → Region.waitsFor .any l.toArray i j = true → a.tmps[d j]? = some (v j) ∧ R j (v j) (lo j) (hi j) w ∧ w0.heap.size ≤ lo j ∧ hi j ≤ w.heap.size) →
   wpOp P l.toArray Q i (fun a' w' => ∃ x, a' = a.put (some (d i)) x ∧ Below w.heap.size w w' ∧ R i x w.heap.size w'.heap.size w') a w)
 (done : ∀ (a : Act) (w : World) (v : Nat → Value) (lo hi : Nat → Nat), a.defers = a0.defers → a.tmps.size = a0.tmps.size → (∀ s, (∀ j, j < n → d j ≠ s) → a.tmps[s]? = a0.tmps[s]?) → Below w0.heap.size w0 w →
   (∀ j, j < n → a.tmps[d j]? = some (v j) ∧ R j (v j) (lo j) (hi j) w ∧ w0.heap.size ≤ lo j ∧ hi j ≤ w.heap.size) → (∀ i j, i < n → j < n → i ≠ j → hi i ≤ lo j ∨ hi j ≤ lo i) → wpList P l.toArray Q (l.drop n) a w) :
 (Code.region id l.toArray true).wp P Q a0 w0 := by
 have hn : n < l.length := by
  simp only [invB, Bool.and_eq_true, decide_eq_true_eq] at hB
  simpa using hB.1.1.1.1
 refine wp_region_inv n hm hB (fun listed a w => listed.size = l.length ∧ ∃ v lo hi, Grow n d R a0 w0 listed a w v lo hi) ⟨by simp, fun _ => undef, fun _ => 0, fun _ => 0, rfl, rfl, fun _ _ => rfl, ⟨rfl, rfl, rfl, Nat.le_refl _, fun _ _ => rfl⟩, fun i hi hl => ?_, fun i j hi hj _ hl => ?_⟩ ?_ ?_
 · have : (Array.replicate l.length false).getD i true = false := by
    have hlt : i < l.length := by omega
    simp [hlt]
   rw [this] at hl; cases hl
 · have : (Array.replicate l.length false).getD i true = false := by
    have hlt : i < l.length := by omega
    simp [hlt]
   rw [this] at hl; cases hl
 · rintro listed a w i hi hr ⟨hsz, v, lo, hi', hG⟩
   obtain ⟨hun, oi, hoi, hall⟩ := mem_ready.1 hr
   refine wpOp_mono ?_ (step i hi a w v lo hi' hG.other hG.below (fun j hj hw => ?_))
   · rintro a' w' ⟨x, rfl, hb, hx⟩
     exact ⟨by simpa using hsz, _, _, _, hG.step hR hd hds hi (by omega) hun hb hx⟩
   · obtain ⟨oj, hoj, e, he, hbn, hon⟩ := Region.waitsFor_spec hw
     have : oj = oi := Option.some.inj (hoj.symm.trans hoi)
     subst this
     have hlj := hall e he hbn
     rw [hon] at hlj
     have hlj' : listed.getD j true = true := by
      have hjl : j < listed.size := by omega
      simp [hjl] at hlj ⊢
      exact hlj
     obtain ⟨h1, h2, h3, h4, h5⟩ := hG.slot j hj hlj'
     exact ⟨h1, h2, h3, h5⟩
 · rintro a w ⟨hsz, v, lo, hi, hG⟩
   have hfull : ∀ i, i < n → (fullHead n (l.length - n)).getD i true = true := fun i hi => by
    have hlt : i < (fullHead n (l.length - n)).size := by simp [fullHead]; omega
    simp [fullHead, hi, List.getElem?_append]
   exact done a w v lo hi hG.defers hG.size hG.other hG.below (fun j hj => by
    obtain ⟨h1, h2, h3, h4, h5⟩ := hG.slot j hj (hfull j hj)
    exact ⟨h1, h2, h3, h5⟩) (fun i j hi hj hne => hG.apart i j hi hj hne (hfull i hi) (hfull j hj))
end
end Go.Proofs.YtinjhnnpbejccaaGreatDoor
