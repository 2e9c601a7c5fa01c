/- A region that draws its order, by an invariant: what is listed has been done; each operation of the head keeps it, whichever order is drawn; the tail goes in one order. No program is named here. -/
import Derived.StillTail
import Derived.StillTailTactics
import Derived.RegionTactic
import Derived.Below
namespace Go.Proofs.YtfnkmgipjemkdaaGreatDoor
open Go
set_option linter.unusedVariables false

section
variable {P : Program} {ops : Array Oper} {md : Region.Mode} {Q : Exit → Act → World → Prop}

/-- How many of the first n are not listed. -/
def unl (listed : Array Bool) : Nat → Nat
  | 0 => 0
  | n + 1 => unl listed n + if listed.getD n true then 0 else 1
theorem unl_far {listed : Array Bool} {i : Nat} : ∀ {n : Nat}, n ≤ i → unl (listed.setIfInBounds i true) n = unl listed n
  | 0, _ => rfl
  | n + 1, h => by
    unfold unl
    rw [unl_far (by omega), getD_set_ne true (by omega)]
theorem unl_set {listed : Array Bool} {i : Nat} (hu : listed.getD i true = false) : ∀ {n : Nat}, i < n → unl (listed.setIfInBounds i true) n + 1 = unl listed n
  | n + 1, h => by
    unfold unl
    by_cases hi : i = n
    · subst hi
      rw [unl_far (Nat.le_refl _), hu]
      have : (listed.setIfInBounds i true).getD i true = true := by
        rcases Nat.lt_or_ge i listed.size with h' | h' <;> simp [h']
      rw [this]
      simp
    · have h1 := unl_set hu (n := n) (by omega)
      rw [getD_set_ne true hi]
      omega
theorem unl_zero {listed : Array Bool} : ∀ {n : Nat}, unl listed n = 0 → ∀ i, i < n → listed.getD i true = true
  | n + 1, h, i, hi => by
    unfold unl at h
    by_cases hin : i = n
    · subst hin
      cases hl : listed.getD i true with
      | true => rfl
      | false => rw [hl] at h; simp at h
    · exact unl_zero (Nat.add_eq_zero_iff.1 h).1 i (by omega)
theorem unl_pos {listed : Array Bool} : ∀ {n : Nat}, unl listed n ≠ 0 → ∃ i, i < n ∧ listed.getD i true = false ∧ ∀ j, j < i → listed.getD j true = true
  | 0, h => absurd rfl h
  | n + 1, h => by
    by_cases h1 : unl listed n = 0
    · refine ⟨n, by omega, ?_, fun j hj => unl_zero h1 j hj⟩
      unfold unl at h
      cases hl : listed.getD n true with
      | false => rfl
      | true => rw [hl, h1] at h; simp at h
    · obtain ⟨i, hi, h2⟩ := unl_pos h1
      exact ⟨i, by omega, h2⟩
/-- In the head each waits for elder ones alone. -/
def eldB (md : Region.Mode) (ops : Array Oper) (n : Nat) : Bool :=
  (List.range n).all fun i => match ops[i]? with
    | some o => o.after.all fun e => !Region.binds md e || decide (e.on < i)
    | none => false
def fullHead (n m : Nat) : Array Bool := (List.replicate n true ++ List.replicate m false).toArray
def invB (md : Region.Mode) (ops : Array Oper) (n : Nat) : Bool :=
  decide (n < ops.size) && Region.sinkB md ops n && Region.chainB md ops n && eldB md ops n && Region.seqB md ops (ops.size - n) n (fullHead n (ops.size - n))

theorem full_of {listed : Array Bool} {n : Nat} (inv : HeadInv md ops n listed) (hn : n < ops.size) (h : unl listed n = 0) : listed = fullHead n (ops.size - n) := by
  have hs : (fullHead n (ops.size - n)).size = ops.size := by simp [fullHead]; omega
  apply Array.ext
  · rw [inv.size, hs]
  · intro i h1 h2
    have hi : i < ops.size := by rw [← inv.size]; exact h1
    have e1 : listed.getD i true = listed[i] := by simp [h1]
    rw [← e1]
    by_cases hin : i < n
    · rw [unl_zero h i hin]
      simp [fullHead, hin]
    · rw [inv.tail i (by omega) hi]
      simp only [fullHead, List.getElem_toArray]
      rw [List.getElem_append_right (by simp; omega)]
      simp

theorem wpAny_inv {n : Nat} {Inv : Array Bool → Act → World → Prop} (hn : n < ops.size) (hs : Region.sinkB md ops n = true) (hc : Region.chainB md ops n = true) (he : eldB md ops n = true) (hq : Region.seqB md ops (ops.size - n) n (fullHead n (ops.size - n)) = true)
    (step : ∀ listed a w i, i < n → i ∈ Region.ready md ops listed → Inv listed a w → wpOp P ops Q i (fun a' w' => Inv (listed.setIfInBounds i true) a' w') a w)
    (done : ∀ a w, Inv (fullHead n (ops.size - n)) a w → wpList P ops Q (ops.toList.drop n) a w) :
    ∀ (f : Nat) (listed : Array Bool) (a : Act) (w : World), HeadInv md ops n listed → unl listed n = f → Inv listed a w → wpAny P md ops Q (f + (ops.size - n)) listed a w
  | 0, listed, a, w, inv, hu, hI => by
    have e := full_of inv hn hu
    subst e
    rw [Nat.zero_add]
    have h := wpAny_of_seq (P := P) (md := md) (Q' := Q) (ops.toList.drop n) n (fullHead n (ops.size - n)) a w (fun j => by simp [List.getElem?_drop]) (by simpa using hq) (done a w hI)
    simpa using h
  | f + 1, listed, a, w, inv, hu, hI => by
    rw [show f + 1 + (ops.size - n) = (f + (ops.size - n)) + 1 by omega]
    obtain ⟨i0, hi0, hun0, hmin⟩ := unl_pos (listed := listed) (n := n) (by omega)
    refine ⟨fun hr => ?_, fun i hi => ?_⟩
    · exfalso
      have hmem : i0 ∈ Region.ready md ops listed := by
        rw [mem_ready]
        have h1 := List.all_eq_true.1 he i0 (List.mem_range.2 hi0)
        have hlt : i0 < ops.size := by omega
        rw [Array.getElem?_eq_getElem hlt] at h1
        refine ⟨hun0, ops[i0], Array.getElem?_eq_getElem hlt, fun e hem hb => ?_⟩
        have h2 := (Array.all_eq_true_iff_forall_mem.1 h1) e hem
        rw [hb] at h2
        simp only [Bool.not_true, Bool.false_or, decide_eq_true_eq] at h2
        have h3 := hmin e.on h2
        have h4 : e.on < listed.size := by rw [inv.size]; omega
        simp [h4] at h3 ⊢
        exact h3
      rw [hr] at hmem
      cases hmem
    · have hin : i < n := by
        rcases Nat.lt_or_ge i n with h | h
        · exact h
        · exact absurd hi (tail_waits hs hc hn inv _ i0 rfl hi0 hun0 i h)
      have hui := (mem_ready.1 hi).1
      exact wpOp_mono (fun a' w' hI' => wpAny_inv hn hs hc he hq step done f _ a' w' (inv.set hi hin) (by have := unl_set hui hin; omega) hI') (step listed a w i hin hi hI)

/-- The law: a region, its first n operations in whatever order, the others behind them. -/
theorem wp_region_inv {id : Nat} {a : Act} {w : World} {l : List Oper} (n : Nat) (hm : P.follows .mixedOrders = true) (hB : invB .any l.toArray n = true) (Inv : Array Bool → Act → World → Prop)
    (h0 : Inv (Array.replicate l.length false) a w.drew)
    (step : ∀ listed a w i, i < n → i ∈ Region.ready .any l.toArray listed → Inv listed a w → wpOp P l.toArray Q i (fun a' w' => Inv (listed.setIfInBounds i true) a' w') a w)
    (done : ∀ a w, Inv (fullHead n (l.length - n)) a w → wpList P l.toArray Q (l.drop n) a w) : (Code.region id l.toArray true).wp P Q a w := by
  simp only [invB, Bool.and_eq_true, decide_eq_true_eq] at hB
  obtain ⟨⟨⟨⟨hn, hs⟩, hc⟩, he⟩, hq⟩ := hB
  have inv0 : HeadInv .any l.toArray n (Array.replicate l.toArray.size false) :=
    ⟨by simp, fun j oj _ hl => (by rw [getD_replicate_false] at hl; cases hl), fun t _ ht => getD_in (by simpa using ht) (getD_replicate_false _ _)⟩
  have hu : unl (Array.replicate l.toArray.size false) n = n := by
    have : ∀ k, k ≤ n → unl (Array.replicate l.toArray.size false) k = k := by
      intro k
      induction k with
      | zero => intro _; rfl
      | succ k ih =>
        intro hk
        unfold unl
        have hk2 : k < (Array.replicate l.toArray.size false).size := by simp; simp at hn; omega
        rw [ih (by omega), getD_in hk2 (getD_replicate_false _ _)]
        simp
    exact this n (Nat.le_refl _)
  refine wp_region_any hm ?_
  have H := wpAny_inv (P := P) (Q := Q) (Inv := Inv) hn hs hc he hq step (by simpa using done) n _ a { w with drawn := w.drawn + 1 } inv0 hu (by simpa using h0)
  rw [show n + (l.toArray.size - n) = l.toArray.size by omega] at H
  exact H
end
end Go.Proofs.YtfnkmgipjemkdaaGreatDoor

/- A region that draws its order, whose head makes memory: each operation's memory lies apart from the others', whichever order is drawn. No program is named here. -/
namespace Go.Proofs.YtfnkmgipjemkdaaGreatDoor
open Go Go.RowKit
set_option linter.unusedVariables false

section
variable {P : Program} {Q : Exit → Act → World → Prop}

/-- What is known where the operations of 'listed' have been done: slot d i holds v i, of which R says that it is good; its memory lies from lo i up to hi i. -/
structure Grow (n : Nat) (d : Nat → Nat) (R : Nat → Value → Nat → Nat → World → Prop) (a0 : Act) (w0 : World) (listed : Array Bool) (a : Act) (w : World) (v : Nat → Value) (lo hi : Nat → Nat) : Prop where
  defers : a.defers = a0.defers
  size : a.tmps.size = a0.tmps.size
  other : ∀ s, (∀ i, i < n → d i ≠ s) → a.tmps[s]? = a0.tmps[s]?
  below : Below w0.heap.size w0 w
  slot : ∀ i, i < n → listed.getD i true = true → a.tmps[d i]? = some (v i) ∧ R i (v i) (lo i) (hi i) w ∧ w0.heap.size ≤ lo i ∧ lo i ≤ hi i ∧ hi i ≤ w.heap.size
  apart : ∀ i j, i < n → j < n → i ≠ j → listed.getD i true = true → listed.getD j true = true → hi i ≤ lo j ∨ hi j ≤ lo i

theorem put_tmps (a : Act) (s : Nat) (x : Value) : (a.put (some s) x).tmps = a.tmps.setIfInBounds s x ∧ (a.put (some s) x).defers = a.defers := ⟨rfl, rfl⟩

theorem Grow.step {n : Nat} {d : Nat → Nat} {R : Nat → Value → Nat → Nat → World → Prop} {a0 : Act} {w0 : World} {listed : Array Bool} {a : Act} {w w' : World} {v : Nat → Value} {lo hi : Nat → Nat}
    (h : Grow n d R a0 w0 listed a w v lo hi) (hR : ∀ i x l m w w', R i x l m w → m ≤ w.heap.size → Below w.heap.size w w' → R i x l m w') (hd : ∀ i j, i < n → j < n → d i = d j → i = j) (hds : ∀ i, i < n → d i < a0.tmps.size)
    {i : Nat} (hi0 : i < n) (hl : i < listed.size) (hun : listed.getD i true = false) {x : Value} (hb : Below w.heap.size w w') (hx : R i x w.heap.size w'.heap.size w') :
    Grow n d R a0 w0 (listed.setIfInBounds i true) (a.put (some (d i)) x) w' (fun j => if j = i then x else v j) (fun j => if j = i then w.heap.size else lo j) (fun j => if j = i then w'.heap.size else hi j) := by
  have hget : ∀ j, (listed.setIfInBounds i true).getD j true = true → j ≠ i → listed.getD j true = true := fun j hj hne => by
    rwa [getD_set_ne true (Ne.symm hne)] at hj
  refine ⟨h.defers, ?_, fun s hs => ?_, h.below.trans (hb.mono h.below.size), fun j hj hlj => ?_, fun j k hj hk hne hlj hlk => ?_⟩
  · rw [(put_tmps a (d i) x).1, Array.size_setIfInBounds]; exact h.size
  · rw [(put_tmps a (d i) x).1, Array.getElem?_setIfInBounds_ne (hs i hi0)]; exact h.other s hs
  · by_cases hji : j = i
    · subst hji
      simp only [if_true]
      refine ⟨?_, hx, h.below.size, hb.size, Nat.le_refl _⟩
      rw [(put_tmps a (d j) x).1, Array.getElem?_setIfInBounds_self_of_lt (by rw [h.size]; exact hds j hj)]
    · simp only [if_neg hji]
      obtain ⟨h1, h2, h3, h4, h5⟩ := h.slot j hj (hget j hlj hji)
      refine ⟨?_, hR j _ _ _ w w' h2 h5 hb, h3, h4, Nat.le_trans h5 hb.size⟩
      rw [(put_tmps a (d i) x).1, Array.getElem?_setIfInBounds_ne (fun e => hji (hd j i hj hi0 e.symm))]
      exact h1
  · by_cases hji : j = i
    · subst hji
      have hkj : ¬ k = j := fun e => hne e.symm
      simp only [if_true, if_neg hkj]
      exact .inr (h.slot k hk (hget k hlk hkj)).2.2.2.2
    · by_cases hki : k = i
      · subst hki
        simp only [if_true, if_neg hji]
        exact .inl (h.slot j hj (hget j hlj hji)).2.2.2.2
      · simp only [if_neg hji, if_neg hki]
        exact h.apart j k hj hk hne (hget j hlj hji) (hget k hlk hki)

/-- The law. -/
theorem wp_region_grow {id : Nat} {a0 : Act} {w0 : World} {l : List Oper} (n : Nat) (hm : P.follows .mixedOrders = true) (hB : invB .any l.toArray n = true)
    (d : Nat → Nat) (R : Nat → Value → Nat → Nat → World → Prop) (hR : ∀ i x l m w w', R i x l m w → m ≤ w.heap.size → Below w.heap.size w w' → R i x l m w')
    (hd : ∀ i j, i < n → j < n → d i = d j → i = j) (hds : ∀ i, i < n → d i < a0.tmps.size)
    (step : ∀ i, i < n → ∀ (a : Act) (w : World) (v : Nat → Value) (lo hi : Nat → Nat), (∀ s, (∀ j, j < n → d j ≠ s) → a.tmps[s]? = a0.tmps[s]?) → Below w0.heap.size w0 w →
      (∀ j, j < n → Region.waitsFor .any l.toArray i j = true → a.tmps[d j]? = some (v j) ∧ R j (v j) (lo j) (hi j) w ∧ w0.heap.size ≤ lo j ∧ hi j ≤ w.heap.size) →
      wpOp P l.toArray Q i (fun a' w' => ∃ x, a' = a.put (some (d i)) x ∧ Below w.heap.size w w' ∧ R i x w.heap.size w'.heap.size w') a w)
    (done : ∀ (a : Act) (w : World) (v : Nat → Value) (lo hi : Nat → Nat), a.defers = a0.defers → a.tmps.size = a0.tmps.size → (∀ s, (∀ j, j < n → d j ≠ s) → a.tmps[s]? = a0.tmps[s]?) → Below w0.heap.size w0 w →
      (∀ j, j < n → a.tmps[d j]? = some (v j) ∧ R j (v j) (lo j) (hi j) w ∧ w0.heap.size ≤ lo j ∧ hi j ≤ w.heap.size) → (∀ i j, i < n → j < n → i ≠ j → hi i ≤ lo j ∨ hi j ≤ lo i) → wpList P l.toArray Q (l.drop n) a w) :
    (Code.region id l.toArray true).wp P Q a0 w0 := by
  have hn : n < l.length := by
    simp only [invB, Bool.and_eq_true, decide_eq_true_eq] at hB
    simpa using hB.1.1.1.1
  refine wp_region_inv n hm hB (fun listed a w => listed.size = l.length ∧ ∃ v lo hi, Grow n d R a0 w0 listed a w v lo hi) ⟨by simp, fun _ => undef, fun _ => 0, fun _ => 0, rfl, rfl, fun _ _ => rfl, ⟨rfl, rfl, rfl, Nat.le_refl _, fun _ _ => rfl⟩, fun i hi hl => ?_, fun i j hi hj _ hl => ?_⟩ ?_ ?_
  · have : (Array.replicate l.length false).getD i true = false := by
      have hlt : i < l.length := by omega
      simp [hlt]
    rw [this] at hl; cases hl
  · have : (Array.replicate l.length false).getD i true = false := by
      have hlt : i < l.length := by omega
      simp [hlt]
    rw [this] at hl; cases hl
  · rintro listed a w i hi hr ⟨hsz, v, lo, hi', hG⟩
    obtain ⟨hun, oi, hoi, hall⟩ := mem_ready.1 hr
    refine wpOp_mono ?_ (step i hi a w v lo hi' hG.other hG.below (fun j hj hw => ?_))
    · rintro a' w' ⟨x, rfl, hb, hx⟩
      exact ⟨by simpa using hsz, _, _, _, hG.step hR hd hds hi (by omega) hun hb hx⟩
    · obtain ⟨oj, hoj, e, he, hbn, hon⟩ := Region.waitsFor_spec hw
      have : oj = oi := Option.some.inj (hoj.symm.trans hoi)
      subst this
      have hlj := hall e he hbn
      rw [hon] at hlj
      have hlj' : listed.getD j true = true := by
        have hjl : j < listed.size := by omega
        simp [hjl] at hlj ⊢
        exact hlj
      obtain ⟨h1, h2, h3, h4, h5⟩ := hG.slot j hj hlj'
      exact ⟨h1, h2, h3, h5⟩
  · rintro a w ⟨hsz, v, lo, hi, hG⟩
    have hfull : ∀ i, i < n → (fullHead n (l.length - n)).getD i true = true := fun i hi => by
      have hlt : i < (fullHead n (l.length - n)).size := by simp [fullHead]; omega
      simp [fullHead, hi, List.getElem?_append]
    exact done a w v lo hi hG.defers hG.size hG.other hG.below (fun j hj => by
      obtain ⟨h1, h2, h3, h4, h5⟩ := hG.slot j hj (hfull j hj)
      exact ⟨h1, h2, h3, h5⟩) (fun i j hi hj hne => hG.apart i j hi hj hne (hfull i hi) (hfull j hj))
end
end Go.Proofs.YtfnkmgipjemkdaaGreatDoor
