/- A region that draws its order, by an invariant: what is listed has been done; each operation of the head keeps it, whichever order is drawn; the tail goes in one order. No program is named here. -/
import Derived.StillTail
import Derived.StillTailTactics
import Derived.RegionTactic
namespace Go.Proofs.YtinjhnnpbejccaaGreatDoor
open Go
set_option linter.unusedVariables false

section
variable {P : Program} {ops : Array Oper} {md : Region.Mode} {Q : Exit → Act → World → Prop}
def unl (listed : Array Bool) : Nat → Nat
 | 0 => 0
 | n + 1 => unl listed n + if listed.getD n true then 0 else 1
theorem unl_far {listed : Array Bool} {i : Nat} : ∀ {n : Nat}, n ≤ i → unl (listed.setIfInBounds i true) n = unl listed n
 | 0, _ => rfl
 | n + 1, h => by
  unfold unl
  rw [unl_far (by omega), getD_set_ne true (by omega)]
theorem unl_set {listed : Array Bool} {i : Nat} (hu : listed.getD i true = false) : ∀ {n : Nat}, i < n → unl (listed.setIfInBounds i true) n + 1 = unl listed n
 | n + 1, h => by
  unfold unl
  by_cases hi : i = n
  · subst hi
    rw [unl_far (Nat.le_refl _), hu]
    have : (listed.setIfInBounds i true).getD i true = true := by
     rcases Nat.lt_or_ge i listed.size with h' | h' <;> simp [h']
    rw [this]
    simp
  · have h1 := unl_set hu (n := n) (by omega)
    rw [getD_set_ne true hi]
    omega
theorem unl_zero {listed : Array Bool} : ∀ {n : Nat}, unl listed n = 0 → ∀ i, i < n → listed.getD i true = true
 | n + 1, h, i, hi => by
  unfold unl at h
  by_cases hin : i = n
  · subst hin
    cases hl : listed.getD i true with
    | true => rfl
    | false => rw [hl] at h; simp at h
  · exact unl_zero (Nat.add_eq_zero_iff.1 h).1 i (by omega)
theorem unl_pos {listed : Array Bool} : ∀ {n : Nat}, unl listed n ≠ 0 → ∃ i, i < n ∧ listed.getD i true = false ∧ ∀ j, j < i → listed.getD j true = true
 | 0, h => absurd rfl h
 | n + 1, h => by
  by_cases h1 : unl listed n = 0
  · refine ⟨n, by omega, ?_, fun j hj => unl_zero h1 j hj⟩
    unfold unl at h
    cases hl : listed.getD n true with
    | false => rfl
    | true => rw [hl, h1] at h; simp at h
  · obtain ⟨i, hi, h2⟩ := unl_pos h1
    exact ⟨i, by omega, h2⟩
def eldB (md : Region.Mode) (ops : Array Oper) (n : Nat) : Bool :=
 (List.range n).all fun i => match ops[i]? with
   | some o => o.after.all fun e => !Region.binds md e || decide (e.on < i)
   | none => false
def fullHead (n m : Nat) : Array Bool := (List.replicate n true ++ List.replicate m false).toArray
def invB (md : Region.Mode) (ops : Array Oper) (n : Nat) : Bool :=
 decide (n < ops.size) && Region.sinkB md ops n && Region.chainB md ops n && eldB md ops n && Region.seqB md ops (ops.size - n) n (fullHead n (ops.size - n))

theorem full_of {listed : Array Bool} {n : Nat} (inv : HeadInv md ops n listed) (hn : n < ops.size) (h : unl listed n = 0) : listed = fullHead n (ops.size - n) := by
 have hs : (fullHead n (ops.size - n)).size = ops.size := by simp [fullHead]; omega
 apply Array.ext
 · rw [inv.size, hs]
 · intro i h1 h2
   have hi : i < ops.size := by rw [← inv.size]; exact h1
   have e1 : listed.getD i true = listed[i] := by simp [h1]
   rw [← e1]
   by_cases hin : i < n
   · rw [unl_zero h i hin]
     simp [fullHead, hin]
   · rw [inv.tail i (by omega) hi]
     simp only [fullHead, List.getElem_toArray]
     rw [List.getElem_append_right (by simp; omega)]
     simp

theorem wpAny_inv {n : Nat} {Inv : Array Bool → Act → World → Prop} (hn : n < ops.size) (hs : Region.sinkB md ops n = true) (hc : Region.chainB md ops n = true) (he : eldB md ops n = true) (hq : Region.seqB md ops (ops.size - n) n (fullHead n (ops.size - n)) = true)
 (step : ∀ listed a w i, i < n → i ∈ Region.ready md ops listed → Inv listed a w → wpOp P ops Q i (fun a' w' => Inv (listed.setIfInBounds i true) a' w') a w)
 (done : ∀ a w, Inv (fullHead n (ops.size - n)) a w → wpList P ops Q (ops.toList.drop n) a w) :
 ∀ (f : Nat) (listed : Array Bool) (a : Act) (w : World), HeadInv md ops n listed → unl listed n = f → Inv listed a w → wpAny P md ops Q (f + (ops.size - n)) listed a w
 | 0, listed, a, w, inv, hu, hI => by
  have e := full_of inv hn hu
  subst e
  rw [Nat.zero_add]
  have h := wpAny_of_seq (P := P) (md := md) (Q' := Q) (ops.toList.drop n) n (fullHead n (ops.size - n)) a w (fun j => by simp [List.getElem?_drop]) (by simpa using hq) (done a w hI)
  simpa using h
 | f + 1, listed, a, w, inv, hu, hI => by
  rw [show f + 1 + (ops.size - n) = (f + (ops.size - n)) + 1 by omega]
  obtain ⟨i0, hi0, hun0, hmin⟩ := unl_pos (listed := listed) (n := n) (by omega)
  refine ⟨fun hr => ?_, fun i hi => ?_⟩
  · exfalso
    have hmem : i0 ∈ Region.ready md ops listed := by
     rw [mem_ready]
     have h1 := List.all_eq_true.1 he i0 (List.mem_range.2 hi0)
     have hlt : i0 < ops.size := by omega
     rw [Array.getElem?_eq_getElem hlt] at h1
     refine ⟨hun0, ops[i0], Array.getElem?_eq_getElem hlt, fun e hem hb => ?_⟩
     have h2 := (Array.all_eq_true_iff_forall_mem.1 h1) e hem
     rw [hb] at h2
     simp only [Bool.not_true, Bool.false_or, decide_eq_true_eq] at h2
     have h3 := hmin e.on h2
     have h4 : e.on < listed.size := by rw [inv.size]; omega
     simp [h4] at h3 ⊢
     exact h3
    rw [hr] at hmem
    cases hmem
  · have hin : i < n := by
     rcases Nat.lt_or_ge i n with h | h
     · exact h
     · exact absurd hi (tail_waits hs hc hn inv _ i0 rfl hi0 hun0 i h)
    have hui := (mem_ready.1 hi).1
    exact wpOp_mono (fun a' w' hI' => wpAny_inv hn hs hc he hq step done f _ a' w' (inv.set hi hin) (by have := unl_set hui hin; omega) hI') (step listed a w i hin hi hI)
theorem wp_region_inv {id : Nat} {a : Act} {w : World} {l : List Oper} (n : Nat) (hm : P.follows .mixedOrders = true) (hB : invB .any l.toArray n = true) (Inv : Array Bool → Act → World → Prop)
 (h0 : Inv (Array.replicate l.length false) a w.drew)
 (step : ∀ listed a w i, i < n → i ∈ Region.ready .any l.toArray listed → Inv listed a w → wpOp P l.toArray Q i (fun a' w' => Inv (listed.setIfInBounds i true) a' w') a w)
 (done : ∀ a w, Inv (fullHead n (l.length - n)) a w → wpList P l.toArray Q (l.drop n) a w) : (Code.region id l.toArray true).wp P Q a w := by
 simp only [invB, Bool.and_eq_true, decide_eq_true_eq] at hB
 obtain ⟨⟨⟨⟨hn, hs⟩, hc⟩, he⟩, hq⟩ := hB
 have inv0 : HeadInv .any l.toArray n (Array.replicate l.toArray.size false) :=
  ⟨by simp, fun j oj _ hl => (by rw [getD_replicate_false] at hl; cases hl), fun t _ ht => getD_in (by simpa using ht) (getD_replicate_false _ _)⟩
 have hu : unl (Array.replicate l.toArray.size false) n = n := by
  have : ∀ k, k ≤ n → unl (Array.replicate l.toArray.size false) k = k := by
   intro k
   induction k with
   | zero => intro _; rfl
   | succ k ih =>
    intro hk
    unfold unl
    have hk2 : k < (Array.replicate l.toArray.size false).size := by simp; simp at hn; omega
    rw [ih (by omega), getD_in hk2 (getD_replicate_false _ _)]
    simp
  exact this n (Nat.le_refl _)
 refine wp_region_any hm ?_
 have H := wpAny_inv (P := P) (Q := Q) (Inv := Inv) hn hs hc he hq step (by simpa using done) n _ a { w with drawn := w.drawn + 1 } inv0 hu (by simpa using h0)
 rw [show n + (l.toArray.size - n) = l.toArray.size by omega] at H
 exact H
end
end Go.Proofs.YtinjhnnpbejccaaGreatDoor
