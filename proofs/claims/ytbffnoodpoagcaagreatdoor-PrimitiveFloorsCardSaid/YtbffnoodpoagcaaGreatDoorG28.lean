/- The results as cells; small arguments. -/
import Derived.Test.YtbffnoodpoagcaaGreatDoorG26
import Derived.Test.YtbffnoodpoagcaaGreatDoorG18
import Derived.Test.YtbffnoodpoagcaaGreatDoorG25
import Derived.Test.YtbffnoodpoagcaaGreatDoorG19
import Derived.Test.YtbffnoodpoagcaaGreatDoorG27
import Derived.Test.YtbffnoodpoagcaaGreatDoorG20
namespace Go.Proofs.YtbffnoodpoagcaaGreatDoor
open Go Go.RowKit
set_option linter.unusedVariables false
def Us (w : World) (r : Option Ob × Int) (cs : Array Value) : Prop := cs.size = 7 ∧ cs.all (·.oneCell') = true ∧ match r.1 with
 | some o => ∃ p, cs = (cellsO o p).toArray ∧ Hd w o p
 | none => cs = zeroC
theorem Us.below {w w' : World} {r : Option Ob × Int} {cs : Array Value} (h : Us w r cs) (hb : Below w.heap.size w w') : Us w' r cs := by
 obtain ⟨h1, h2, h3⟩ := h
 obtain ⟨o, n⟩ := r
 cases o with
 | none => exact ⟨h1, h2, h3⟩
 | some o =>
  obtain ⟨p, h4, h5⟩ : ∃ p, cs = (cellsO o p).toArray ∧ Hd w o p := h3
  exact ⟨h1, h2, p, h4, h5.below hb⟩
def RetU (w : World) (r : Option Ob × Int) (e : Ending) (w' : World) : Prop := ∃ cs, e = .returned (.tuple #[.agg cs, .int .i64 r.2]) ∧ Us w' r cs ∧ Below w.heap.size w w'
theorem RetE.u {w w' : World} {r : Option Ob × Int} {e : Ending} (h : RetE w r e w') : RetU w r e w' := by
 obtain ⟨o, n⟩ := r
 cases o with
 | none =>
  obtain ⟨h1, h2⟩ : e = .returned (.tuple #[.agg zeroC, .int .i64 n]) ∧ Below w.heap.size w w' := h
  exact ⟨zeroC, h1, ⟨rfl, by simp [zeroC, Value.oneCell'], rfl⟩, h2⟩
 | some o =>
  obtain ⟨p, h1, h2, h3⟩ : ∃ p, e = .returned (.tuple #[vO o p, .int .i64 n]) ∧ Hd w' o p ∧ Below w.heap.size w w' := h
  exact ⟨(cellsO o p).toArray, h1, ⟨by rw [List.size_toArray, cellsO_length], Pair.one h2, p, rfl, h2⟩, h3⟩
theorem MkL.ar {B : Nat} {W wr : World} {l : List Rw} {i : Nat} {v : Value} {xs : List (Ob × Value)} (h : MkL B W wr l i v xs) : Ar wr (fsts xs) v := by
 have hl : (fsts xs).length = i := by simp [fsts, h.len]
 have ho := own_lt h.own
 rcases h.own.2 with ⟨rfl, rfl⟩ | ⟨g, cap, cur, rfl, hb, hh, hn, _, hcs, hcur⟩
 · exact ⟨none, 0, by rw [hl], by omega, fun h0 => by omega⟩
 · have hOb : ObsAt wr (Has wr) g 0 (fsts xs) := obsAt_row xs 0 (fun x hx => (h.pairs x hx).more fun b hb => hb.2.1) (fun j u hj => by
    rw [Nat.zero_add, cell_of_row _ _ _ _ _ _ hh]
    rw [← hcur] at hj
    rw [List.getElem?_take] at hj
    split at hj
    · simpa using hj
    · cases hj)
   refine ⟨_, cap, by rw [hl], by omega, fun _ => ⟨g, 0, rfl, fun k hk => ?_⟩⟩
   obtain ⟨p, h1, h2⟩ := hOb.get hk
   exact ⟨p, ⟨(ho g rfl).2, _, _, hh⟩, h2, h1⟩
theorem list_bd {k : Nat} : ∀ {l : List Ob}, (Ob.list l).bd k → ∀ o ∈ l, o.bd k
 | [], _, o, ho => by cases ho
 | a :: l, h, o, ho => by
  rcases List.mem_cons.1 ho with rfl | ho
  · exact h.1
  · exact list_bd (l := l) h.2 o ho
theorem list_nd {m : Nat} : ∀ {l : List Ob}, (Ob.list l).nodes ≤ m → ∀ o ∈ l, o.nodes ≤ m
 | [], _, o, ho => by cases ho
 | a :: l, h, o, ho => by
  have h' : 1 + a.nodes + (Ob.list l).nodes ≤ m := h
  rcases List.mem_cons.1 ho with rfl | ho
  · omega
  · exact list_nd (l := l) (by omega) o ho
def RetAr (w : World) (n : Nat) (e : Ending) (w' : World) : Prop := ∃ os v, e = .returned v ∧ Ar w' os v ∧ os.length = n ∧ (∀ o ∈ os, Sml o) ∧ Below w.heap.size w w'
theorem RetXs.ar {w w' : World} {l : List Rw} {e : Ending} (h : RetXs w l e w') (hc : 1 + 4 * Rw.cnts l ≤ 1000) : RetAr w l.length e w' := by
 obtain ⟨v, xs, rfl, hM⟩ := h
 have hn := hM.nodes
 rw [List.take_length] at hn
 exact ⟨fsts xs, v, rfl, hM.ar, by have := hM.len; simp [fsts, this], fun o ho => ⟨list_bd hM.bd o ho, list_nd (Nat.le_trans hn hc) o ho⟩, hM.bel⟩
theorem cnts_le : ∀ (k : List Rw) (m : Nat), (∀ i (hi : i < k.length), few k[i] m = true) → Rw.cnts k ≤ m * k.length := by
 intro k m
 induction k with
 | nil => intro _; simp [Rw.cnts]
 | cons a k ih =>
  intro h
  have h1 := (few_ok (h 0 (by simp))).2
  have h2 := ih (fun i hi => h (i + 1) (by simpa using hi))
  simp only [List.getElem_cons_zero] at h1
  simp only [Rw.cnts, List.length_cons, Nat.mul_add]
  omega
mutual
theorem RawAt.more {w : World} {S S' : Nat → Prop} (hS : ∀ b, S b → S' b) : ∀ (r : Rw) (cs : List Value), RawAt w S r cs → RawAt w S' r cs
 | .mk k n s l, cs, h => by
  unfold RawAt at h ⊢
  obtain ⟨A, c, h1, h2, h3, h4, h5, h6⟩ := h
  exact ⟨A, c, h1, h2, h3, h4, h5, fun h0 => by
   obtain ⟨b, o, e, hb, hr⟩ := h6 h0
   exact ⟨b, o, e, hS b hb, RawsAt.more hS b o l hr⟩⟩
theorem RawsAt.more {w : World} {S S' : Nat → Prop} (hS : ∀ b, S b → S' b) (b o : Nat) : ∀ l : List Rw, RawsAt w S b o l → RawsAt w S' b o l
 | [], _ => by unfold RawsAt; trivial
 | r :: rs, h => by
  unfold RawsAt at h ⊢
  obtain ⟨⟨cs, h1, h2⟩, h3⟩ := h
  exact ⟨⟨cs, RawAt.more hS r cs h1, h2⟩, RawsAt.more hS b (o + 4) rs h3⟩
end
theorem Ar.take {w : World} {os : List Ob} {b o c k : Nat} (h : Ar w os (.slice (some ⟨b, o, none⟩) os.length c)) (hk : k ≤ os.length) : Ar w (os.take k) (.slice (some ⟨b, o, none⟩) k c) := by
 obtain ⟨A, c', e, h2, h3⟩ := h
 injection e with e1 e2 e3
 subst e1 e3
 have hl : (os.take k).length = k := by rw [List.length_take]; omega
 refine ⟨_, c, by rw [hl], by omega, fun h0 => ?_⟩
 obtain ⟨b', o', e4, h5⟩ := h3 (by omega)
 injection e4 with e4
 injection e4 with e5 e6
 subst e5 e6
 exact ⟨b, o, rfl, fun i hi => by
  rw [hl] at hi
  obtain ⟨p, hp⟩ := h5 i (by omega)
  exact ⟨p, by rw [List.getElem_take]; exact hp⟩⟩
section
variable {Q : Exit → Act → World → Prop}
theorem wp_region_growX {id : Nat} {a0 : Act} {w0 : World} {l : List Oper} (n : Nat) (hm : Tryz.prog.follows .mixedOrders = true) (hB : invB .any l.toArray (n + 1) = true)
 (d : Nat → Nat) (R : Nat → Value → Nat → Nat → World → Prop) (hR : ∀ i x l m w w', R i x l m w → m ≤ w.heap.size → Below w.heap.size w w' → R i x l m w')
 (hd : ∀ i j, i < n → j < n → d i = d j → i = j) (hds : ∀ i, i < n → d i < a0.tmps.size)
 (late : List Nat) (hlate : ((List.range n).all fun i => late.contains i || Region.waitsFor .any l.toArray n i) = true)
 (kb kv : Nat) (hkb : kb < n) (hkv : kv < n) (hwb : Region.waitsFor .any l.toArray n kb = true) (hwv : Region.waitsFor .any l.toArray n kv = true)
 (os : Oper) (hos : l[n]? = some os) (hog : os.guard = none) (hod : os.dst = none) (hop : os.op = .store 27 (.tmp (d kb)) (.tmp (d kv)))
 (hRb : ∀ v lo hi w, R kb v lo hi w → LBx v lo hi w) (G : Ob → Prop) (hRv : ∀ v lo hi w, R kv v lo hi w → ∃ o p, v = vO o p ∧ Hd w o p ∧ G o)
 (step : ∀ i, i < n → ∀ (a : Act) (w : World) (v : Nat → Value) (lo hi : Nat → Nat), (∀ s, (∀ j, j < n → d j ≠ s) → a.tmps[s]? = a0.tmps[s]?) → Below w0.heap.size w0 w →
   (∀ j, j < n → Region.waitsFor .any l.toArray i j = true → a.tmps[d j]? = some (v j) ∧ R j (v j) (lo j) (hi j) w ∧ w0.heap.size ≤ lo j ∧ hi j ≤ w.heap.size) →
   wpOp Tryz.prog l.toArray Q i (fun a' w' => ∃ x, a' = a.put (some (d i)) x ∧ Below w.heap.size w w' ∧ R i x w.heap.size w'.heap.size w') a w)
 (stepL : ∀ i, i < n → late.contains i = true → ∀ (a : Act) (w1 w : World) (v : Nat → Value) (lo hi : Nat → Nat),
   (∀ j, j < n → Region.waitsFor .any l.toArray i j = true → a.tmps[d j]? = some (v j) ∧ R j (v j) (lo j) (hi j) w1) →
   wpOp Tryz.prog l.toArray Q i (fun a' w' => ∃ x, a' = a.put (some (d i)) x ∧ w' = w ∧ R i x w1.heap.size w1.heap.size w1) a w)
 (done : ∀ (a : Act) (w : World) (v : Nat → Value) (lo hi : Nat → Nat) (o : Ob) (p : Value), G o → a.defers = a0.defers → a.tmps.size = a0.tmps.size → (∀ s, (∀ j, j < n → d j ≠ s) → a.tmps[s]? = a0.tmps[s]?) → Below w0.heap.size w0 w →
   (∀ j, j < n → a.tmps[d j]? = some (v j) ∧ R j (v j) (lo j) (hi j) w ∧ w0.heap.size ≤ lo j ∧ hi j ≤ w.heap.size) → (∀ i j, i < n → j < n → i ≠ j → hi i ≤ lo j ∨ hi j ≤ lo i) →
   v kv = vO o p → Hd w o p → v kb = .pointer (some ⟨lo kb, 0, none⟩) → Bx w (lo kb) zeroC →
   wpList Tryz.prog l.toArray Q (l.drop (n + 1)) a (w.setRow (lo kb) (cellsO o p).toArray)) :
 (Code.region id l.toArray true).wp Tryz.prog Q a0 w0 := by
 have hn : n + 1 < l.length := by
  simp only [invB, Bool.and_eq_true, decide_eq_true_eq] at hB
  simpa using hB.1.1.1.1
 have hwait : ∀ i, i < n → late.contains i = false → Region.waitsFor .any l.toArray n i = true := fun i hi hl => by
  have h1 := List.all_eq_true.1 hlate i (List.mem_range.2 hi)
  rw [hl] at h1
  simpa using h1
 refine wp_region_inv (n + 1) hm hB (fun listed a w => listed.size = l.length ∧
  ((listed.getD n true = false ∧ ∃ v lo hi, Grow n d R a0 w0 listed a w v lo hi) ∨
    (listed.getD n true = true ∧ (∀ i, i < n → Region.waitsFor .any l.toArray n i = true → listed.getD i true = true) ∧
      ∃ v lo hi w1 o p, G o ∧ Grow n d R a0 w0 listed a w1 v lo hi ∧ v kv = vO o p ∧ Hd w1 o p ∧ v kb = .pointer (some ⟨lo kb, 0, none⟩) ∧ Bx w1 (lo kb) zeroC ∧ w = w1.setRow (lo kb) (cellsO o p).toArray))) ?_ ?_ ?_
 · refine ⟨by simp, .inl ⟨?_, fun _ => undef, fun _ => 0, fun _ => 0, rfl, rfl, fun _ _ => rfl, ⟨rfl, rfl, rfl, Nat.le_refl _, fun _ _ => rfl⟩, fun i hi hl => ?_, fun i j hi hj _ hl => ?_⟩⟩
   · have hlt : n < l.length := by omega
     simp [hlt]
   · have : (Array.replicate l.length false).getD i true = false := by
      have hlt : i < l.length := by omega
      simp [hlt]
     rw [this] at hl; cases hl
   · have : (Array.replicate l.length false).getD i true = false := by
      have hlt : i < l.length := by omega
      simp [hlt]
     rw [this] at hl; cases hl
 · rintro listed a w i hi hr ⟨hsz, hph⟩
   obtain ⟨hun, oi, hoi, hall⟩ := mem_ready.1 hr
   have hwl : ∀ j, j < l.length → Region.waitsFor .any l.toArray i j = true → listed.getD j true = true := fun j hj hw => by
    obtain ⟨oj, hoj, e, he, hbn, hon⟩ := Region.waitsFor_spec hw
    have : oj = oi := Option.some.inj (hoj.symm.trans hoi)
    subst this
    have hlj := hall e he hbn
    rw [hon] at hlj
    have hjl : j < listed.size := by omega
    simp [hjl] at hlj ⊢
    exact hlj
   have hgrow : ∀ k, listed.getD k true = true → (listed.setIfInBounds i true).getD k true = true := fun k hk => by
    by_cases e : i = k
    · subst e; exact set_getD
    · rw [Go.getD_set_ne true e]; exact hk
   rcases hph with ⟨hnl, v, lo, hi', hG⟩ | ⟨hnl, hwt, v, lo, hi', w1, o, p, go, hG, hv, hp, hvb, hb, rfl⟩
   · by_cases hin : i = n
     · subst hin
       have hb := hwl kb (by omega) hwb
       have hvv := hwl kv (by omega) hwv
       obtain ⟨sb, rb, _, _, _⟩ := hG.slot kb hkb hb
       obtain ⟨sv, rv, _, _, _⟩ := hG.slot kv hkv hvv
       obtain ⟨eb, bb, lb⟩ := hRb _ _ _ _ rb
       obtain ⟨o, p, ev, hp, go⟩ := hRv _ _ _ _ rv
       have hosl : l.toArray[i]? = some os := by simpa using hos
       refine wpOp_step hosl fun K' hK' => ?_
       rw [if_pos (wanted_plain hog)]
       refine wp_store_row 27 _ _ hop (lo kb) (cellsO o p).toArray ((eval_of sb).trans eb) ((eval_of sv).trans ev) _ _ bb (by rw [List.size_toArray, cellsO_length]; kernel_rfl) (by simp [zeroC, cellsO_length]) (Pair.one hp) ?_
       refine hK' _ _ ⟨by simpa using hsz, .inr ⟨set_getD, fun j hj hw => hgrow j (hwl j (by omega) hw), v, lo, hi', w, o, p, go, ?_, ev, hp, eb, bb, rfl⟩⟩
       rw [hod]
       have hset : ∀ j, j < i → (listed.setIfInBounds i true).getD j true = listed.getD j true := fun j hj => Go.getD_set_ne true (by omega)
       exact ⟨hG.defers, hG.size, hG.other, hG.below, fun j hj hl => hG.slot j hj (by rw [← hset j hj]; exact hl), fun j k hj hk hne hl hl2 => hG.apart j k hj hk hne (by rw [← hset j hj]; exact hl) (by rw [← hset k hk]; exact hl2)⟩
     · have hi2 : i < n := by omega
       refine wpOp_mono ?_ (step i hi2 a w v lo hi' hG.other hG.below (fun j hj hw => ?_))
       · rintro a' w' ⟨x, rfl, hb, hx⟩
         refine ⟨by simpa using hsz, .inl ⟨?_, _, _, _, hG.step hR hd hds hi2 (by omega) hun hb hx⟩⟩
         rw [Go.getD_set_ne true (by omega)]; exact hnl
       · obtain ⟨h1, h2, h3, h4, h5⟩ := hG.slot j hj (hwl j (by omega) hw)
         exact ⟨h1, h2, h3, h5⟩
   · have hin : i ≠ n := fun e => by rw [e, hnl] at hun; cases hun
     have hi2 : i < n := by omega
     have hcl : late.contains i = true := by
      cases hc : late.contains i with
      | true => rfl
      | false => rw [hwt i hi2 (hwait i hi2 hc)] at hun; cases hun
     have hb1 := hwt kb hkb hwb
     have hb2 := hwt kv hkv hwv
     have n1 : ¬ kb = i := fun e => by rw [← e, hb1] at hun; cases hun
     have n2 : ¬ kv = i := fun e => by rw [← e, hb2] at hun; cases hun
     refine wpOp_mono ?_ (stepL i hi2 hcl a w1 (w1.setRow (lo kb) (cellsO o p).toArray) v lo hi' (fun j hj hw => ?_))
     · rintro a' w' ⟨x, rfl, rfl, hx⟩
       refine ⟨by simpa using hsz, .inr ⟨hgrow n hnl, fun j hj hw => hgrow j (hwt j hj hw), _, _, _, w1, o, p, go, hG.step hR hd hds hi2 (by omega) hun (Below.refl _ _) hx, ?_, hp, ?_, ?_, ?_⟩⟩
       · simp only [if_neg n2]; exact hv
       · simp only [if_neg n1]; exact hvb
       · simp only [if_neg n1]; exact hb
       · simp only [if_neg n1]
     · obtain ⟨h1, h2, _, _, _⟩ := hG.slot j hj (hwl j (by omega) hw)
       exact ⟨h1, h2⟩
 · rintro a w ⟨hsz, hph⟩
   have hfull : ∀ i, i < n + 1 → (fullHead (n + 1) (l.length - (n + 1))).getD i true = true := fun i hi => by
    have hlt : i < (fullHead (n + 1) (l.length - (n + 1))).size := by simp [fullHead]; omega
    simp [fullHead, hi, List.getElem?_append]
   rcases hph with ⟨hnl, _⟩ | ⟨hnl, hwt, v, lo, hi', w1, o, p, go, hG, hv, hp, hvb, hb, rfl⟩
   · rw [hfull n (by omega)] at hnl; cases hnl
   · exact done a w1 v lo hi' o p go hG.defers hG.size hG.other hG.below (fun j hj => by
      obtain ⟨h1, h2, h3, h4, h5⟩ := hG.slot j hj (hfull j (by omega))
      exact ⟨h1, h2, h3, h5⟩) (fun i j hi hj hne => hG.apart i j hi hj hne (hfull i (by omega)) (hfull j (by omega))) hv hp hvb hb
end
section
variable {Q : Exit → Act → World → Prop} {ops : Array Oper} {K : Act → World → Prop} {a : Act} {w : World} {i : Nat} {o : Oper}
theorem gw_bs3 (ho : ops[i]? = some o) (hw : Region.wanted o (yielded ops a.tmps) = true) (ja jb jc : Tmp) {r0 r1 r2 r3 s0 s1 s2 s3 t0 t1 t2 t3 : Value} (hop : o.op = Op.buildSlice 47 3 #[(0, .tmp ja), (1, .tmp jb), (2, .tmp jc)]) (h0 : a.tmps[ja]? = some (.agg #[r0, r1, r2, r3])) (h1 : a.tmps[jb]? = some (.agg #[s0, s1, s2, s3])) (h2 : a.tmps[jc]? = some (.agg #[t0, t1, t2, t3])) (hK : K (a.put o.dst (.slice (some ⟨w.heap.size, 0, none⟩) 3 3)) (w.alloc (.cells #[r0, r1, r2, r3, s0, s1, s2, s3, t0, t1, t2, t3] 49))) : wpOp Tryz.prog ops Q i K a w :=
 wpOp_step ho fun K' hK' => by
  rw [if_pos hw]
  unfold Oper.wp
  simp only [execOp, hop]
  go_simp
  exact hK' _ _ hK
theorem gw_slc (ho : ops[i]? = some o) (hw : Region.wanted o (yielded ops a.tmps) = true) (s t : Tmp) (g q n c k : Nat) (hop : o.op = Op.slice 25 (.tmp s) none (some (.tmp t)) none) (hx : a.tmps[s]? = some (.slice (some ⟨g, q, none⟩) n c)) (hy : a.tmps[t]? = some (.int .i64 (k : Int))) (hk0 : (0 : Int) ≤ (k : Int)) (hkc : (k : Int) ≤ (c : Int)) (hK : K (a.put o.dst (.slice (some ⟨g, q, none⟩) k c)) w) : wpOp Tryz.prog ops Q i K a w :=
 wpOp_step ho fun K' hK' => by
  rw [if_pos hw]
  unfold Oper.wp
  simp only [execOp, hop]
  go_simp
  exact hK' _ _ hK
end
def LRw (cs : Array Value) : Lv := fun v lo hi w => v = .slice (some ⟨lo, 0, none⟩) 3 3 ∧ w.heap[lo]? = some (.cells cs 49 (0, 0)) ∧ lo < hi
theorem mLRw (cs : Array Value) : Mon (LRw cs) := fun _ _ _ _ _ ⟨h1, h2, h3⟩ hm hb => ⟨h1, (hb.block _ (by omega)).trans h2, h3⟩
def LOs (n : Nat) : Lv := fun v _ _ w => ∃ os, Ar w os v ∧ os.length = n ∧ ∀ o ∈ os, Sml o
theorem mLOs (n : Nat) : Mon (LOs n) := fun _ _ _ _ _ ⟨os, h1, h2⟩ _ hb => ⟨os, h1.below hb, h2⟩
def LUt : Lv := fun v _ _ w => ∃ o p, v = .tuple #[vO o p, .int .i64 0] ∧ Hd w o p ∧ Good o
theorem mLUt : Mon LUt := fun _ _ _ _ _ ⟨o, p, h1, h2, h3⟩ _ hb => ⟨o, p, h1, h2.below hb, h3⟩
def LG : Lv := fun v _ _ w => ∃ o p, v = vO o p ∧ Hd w o p ∧ Good o
theorem mLG : Mon LG := fun _ _ _ _ _ ⟨o, p, h1, h2, h3⟩ _ hb => ⟨o, p, h1, h2.below hb, h3⟩
end Go.Proofs.YtbffnoodpoagcaaGreatDoor
