/- A slice of assignments of one's own that grows. No walk yet. -/
import Derived.Test.YtlocnkobancjmaaGreatDoorH21
import Derived.Test.YtlocnkobancjmaaGreatDoorH19
import Derived.Deep.Upon
namespace Go.Proofs.YtlocnkobancjmaaGreatDoor
open Go Go.RowKit
set_option linter.unusedVariables false
set_option maxHeartbeats 32000000
set_option maxRecDepth 100000
theorem infoA : ∃ i, Tryz.prog.info? 64 = some i ∧ i.zero = some (.agg #[.string ⟨#[]⟩, .string ⟨#[]⟩, .int .i64 0, .string ⟨#[]⟩, .string ⟨#[]⟩, .int .i64 0, .string ⟨#[]⟩, .string ⟨#[]⟩, .string ⟨#[]⟩, .string ⟨#[]⟩, .string ⟨#[]⟩, .slice none 0 0, .slice none 0 0]) ∧ i.size = 13 ∧ i.bytes = 208 := info_of (P := Tryz.prog) (t := 64) (z := .agg #[.string ⟨#[]⟩, .string ⟨#[]⟩, .int .i64 0, .string ⟨#[]⟩, .string ⟨#[]⟩, .int .i64 0, .string ⟨#[]⟩, .string ⟨#[]⟩, .string ⟨#[]⟩, .string ⟨#[]⟩, .string ⟨#[]⟩, .slice none 0 0, .slice none 0 0]) (a := 13) (b := 208) (by kernel_rfl)
structure MkA (S0 : Nat → Prop) (W wr : World) (l : List (Nm × Tm)) (v : Value) (xs : List (List Value)) : Prop where
 len : xs.length = l.length
 own : wr.ownsRow W.heap.size 64 13 v l.length xs.flatten
 tms : ∀ i (hi : i < l.length) (hx : i < xs.length), ∃ cs, xs[i] = Value.string l[i].1.1 :: Value.string l[i].1.2 :: cs ∧ TmAt wr (fun b => (S0 b ∨ W.heap.size ≤ b) ∧ b < wr.heap.size ∧ v.ownBlock ≠ some b) l[i].2 cs
 bel : Below W.heap.size W wr
theorem MkA.start (S0 : Nat → Prop) (W : World) : MkA S0 W W [] (.slice none 0 0) [] :=
 ⟨rfl, ⟨rfl, .inl ⟨rfl, rfl⟩⟩, fun i hi => by simp at hi, Below.refl _ _⟩
theorem MkA.below {S0 : Nat → Prop} {W wo w3 : World} {l : List (Nm × Tm)} {v : Value} {xs : List (List Value)} (h : MkA S0 W wo l v xs) (hb : Below wo.heap.size wo w3) : MkA S0 W w3 l v xs :=
 ⟨h.len, own_keep h.own fun g hg => hb.block g (own_lt h.own g hg).2, fun i hi hx => by
  obtain ⟨cs, e, k⟩ := h.tms i hi hx
  exact ⟨cs, e, TmAt.keep (fun b hb' => ⟨hb'.1, Nat.lt_of_lt_of_le hb'.2.1 hb.size, hb'.2.2⟩) (fun b hb' => hb.block b hb'.2.1) _ _ k⟩, h.bel.trans (hb.mono h.bel.size)⟩
theorem MkA.step {S0 : Nat → Prop} {W wo w3 w4 : World} {l : List (Nm × Tm)} {v v' : Value} {xs : List (List Value)} (h : MkA S0 W wo l v xs) (hS : In S0 W) (hb : Below wo.heap.size wo w3) (x : Obj) {n : Nm} {t : Tm} {cs : List Value}
 (hp : TmAt w3 (Upto wo w3 S0) t cs) (h4 : w4.ownsRow W.heap.size 64 13 v' (l.length + 1) (xs.flatten ++ Value.string n.1 :: Value.string n.2 :: cs)) (hg : (w3.alloc x).grownBy w4 v.ownBlock) (hat : v'.ownBlock = v.ownBlock ∨ v'.ownBlock = some (w3.alloc x).heap.size) :
 MkA S0 W w4 (l ++ [(n, t)]) v' (xs ++ [Value.string n.1 :: Value.string n.2 :: cs]) := by
 have hown := own_lt h.own
 have h34 := hg.size
 have hs3 := hb.size
 have hsW := h.bel.size
 simp only [World.size_alloc] at h34 hat
 have blk : ∀ b, b < w3.heap.size → v.ownBlock ≠ some b → w4.heap[b]? = w3.heap[b]? := fun b hb' hne =>
  (hg.block b (by simp; omega) (fun e => hne e.symm)).trans (Below.heap_alloc _ _ _ hb')
 have hne' : ∀ b, b < w3.heap.size → v.ownBlock ≠ some b → v'.ownBlock ≠ some b := fun b hb' hne e => by
  rcases hat with h0 | h0
  · exact hne (h0.symm.trans e)
  · rw [h0] at e
    have : w3.heap.size + 1 = b := by injection e
    omega
 refine ⟨by simp [h.len], by rw [List.flatten_append]; simpa using h4, fun i hi hx => ?_, ?_⟩
 · by_cases hil : i < l.length
   · have hix : i < xs.length := by rw [h.len]; exact hil
     rw [List.getElem_append_left hil, List.getElem_append_left hix]
     obtain ⟨cs0, e0, k0⟩ := h.tms i hil hix
     refine ⟨cs0, e0, TmAt.keep (fun b hb' => ⟨hb'.1, by omega, hne' b (by omega) hb'.2.2⟩) (fun b hb' => ?_) _ _ k0⟩
     rw [blk b (by omega) hb'.2.2, hb.block b hb'.2.1]
   · have hie : i = l.length := by simp at hi; omega
     subst hie
     have e2 : (xs ++ [Value.string n.1 :: Value.string n.2 :: cs])[l.length] = Value.string n.1 :: Value.string n.2 :: cs := by simp [← h.len]
     have e1 : (l ++ [(n, t)])[l.length] = (n, t) := by simp
     rw [e1, e2]
     have hn : ∀ b, Upto wo w3 S0 b → (S0 b ∨ W.heap.size ≤ b) ∧ b < w3.heap.size ∧ v.ownBlock ≠ some b := fun b hb' => by
      rcases hb' with h0 | h0
      · have := hS b h0
        exact ⟨.inl h0, by omega, fun e => by have := (hown b e).1; omega⟩
      · exact ⟨.inr (by omega), h0.2, fun e => by have := (hown b e).2; omega⟩
     refine ⟨cs, rfl, TmAt.keep (fun b hb' => ?_) (fun b hb' => ?_) _ _ hp⟩
     · obtain ⟨h0, h1, h2⟩ := hn b hb'
       exact ⟨h0, by omega, hne' b h1 h2⟩
     · obtain ⟨h0, h1, h2⟩ := hn b hb'
       exact blk b h1 h2
 · have hb3 := h.bel.trans (hb.mono hsW)
   have hba := Below.alloc hb3 (by omega) x
   exact hba.grown hg hba.size (fun k hk => by have := (hown k hk).1; omega)
theorem MkA.step2 {S0 : Nat → Prop} {W wo w3 w4 : World} {l : List (Nm × Tm)} {v v' : Value} {xs : List (List Value)} (h : MkA S0 W wo l v xs) (hS : In S0 W) (hb : Below wo.heap.size wo w3) {n : Nm} {t : Tm} {cs : List Value}
 (hp : TmAt w3 (Upto wo w3 S0) t cs) (h4 : w4.ownsRow W.heap.size 64 13 v' (l.length + 1) (xs.flatten ++ Value.string n.1 :: Value.string n.2 :: cs)) (hg : w3.grownBy w4 v.ownBlock) (hat : v'.ownBlock = v.ownBlock ∨ v'.ownBlock = some w3.heap.size) :
 MkA S0 W w4 (l ++ [(n, t)]) v' (xs ++ [Value.string n.1 :: Value.string n.2 :: cs]) := by
 have hown := own_lt h.own
 have h34 := hg.size
 have hs3 := hb.size
 have hsW := h.bel.size
 have blk : ∀ b, b < w3.heap.size → v.ownBlock ≠ some b → w4.heap[b]? = w3.heap[b]? := fun b hb' hne =>
  hg.block b (by omega) (fun e => hne e.symm)
 have hne' : ∀ b, b < w3.heap.size → v.ownBlock ≠ some b → v'.ownBlock ≠ some b := fun b hb' hne e => by
  rcases hat with h0 | h0
  · exact hne (h0.symm.trans e)
  · rw [h0] at e
    have : w3.heap.size = b := by injection e
    omega
 refine ⟨by simp [h.len], by rw [List.flatten_append]; simpa using h4, fun i hi hx => ?_, ?_⟩
 · by_cases hil : i < l.length
   · have hix : i < xs.length := by rw [h.len]; exact hil
     rw [List.getElem_append_left hil, List.getElem_append_left hix]
     obtain ⟨cs0, e0, k0⟩ := h.tms i hil hix
     refine ⟨cs0, e0, TmAt.keep (fun b hb' => ⟨hb'.1, by omega, hne' b (by omega) hb'.2.2⟩) (fun b hb' => ?_) _ _ k0⟩
     rw [blk b (by omega) hb'.2.2, hb.block b hb'.2.1]
   · have hie : i = l.length := by simp at hi; omega
     subst hie
     have e2 : (xs ++ [Value.string n.1 :: Value.string n.2 :: cs])[l.length] = Value.string n.1 :: Value.string n.2 :: cs := by simp [← h.len]
     have e1 : (l ++ [(n, t)])[l.length] = (n, t) := by simp
     rw [e1, e2]
     have hn : ∀ b, Upto wo w3 S0 b → (S0 b ∨ W.heap.size ≤ b) ∧ b < w3.heap.size ∧ v.ownBlock ≠ some b := fun b hb' => by
      rcases hb' with h0 | h0
      · have := hS b h0
        exact ⟨.inl h0, by omega, fun e => by have := (hown b e).1; omega⟩
      · exact ⟨.inr (by omega), h0.2, fun e => by have := (hown b e).2; omega⟩
     refine ⟨cs, rfl, TmAt.keep (fun b hb' => ?_) (fun b hb' => ?_) _ _ hp⟩
     · obtain ⟨h0, h1, h2⟩ := hn b hb'
       exact ⟨h0, by omega, hne' b h1 h2⟩
     · obtain ⟨h0, h1, h2⟩ := hn b hb'
       exact blk b h1 h2
 · have hb3 := h.bel.trans (hb.mono hsW)
   exact hb3.grown hg hb3.size (fun k hk => by have := (hown k hk).1; omega)
theorem flat13 : ∀ (xs : List (List Value)) (i j : Nat) (u : Value) (hi : i < xs.length), (∀ x ∈ xs, x.length = 13) → xs[i][j]? = some u → xs.flatten[i * 13 + j]? = some u
 | x :: xs, 0, j, u, _, hl, h => by
  rw [Nat.zero_mul, Nat.zero_add, List.flatten_cons]
  have hj : j < x.length := by
   rcases Nat.lt_or_ge j x.length with h1 | h1
   · exact h1
   · rw [List.getElem_cons_zero, List.getElem?_eq_none h1] at h; cases h
  rw [List.getElem?_append_left hj]
  exact h
 | x :: xs, i + 1, j, u, hi, hl, h => by
  have hx := hl x (by simp)
  rw [List.flatten_cons, List.getElem?_append_right (by rw [hx]; omega), hx, show (i + 1) * 13 + j - 13 = i * 13 + j from by omega]
  exact flat13 xs i j u (by simpa using hi) (fun y hy => hl y (by simp [hy])) (by simpa using h)
theorem MkA.l13 {S0 : Nat → Prop} {W wr : World} {l : List (Nm × Tm)} {v : Value} {xs : List (List Value)} (h : MkA S0 W wr l v xs) : ∀ x ∈ xs, x.length = 13 := fun x hx => by
 obtain ⟨i, hi, rfl⟩ := List.getElem_of_mem hx
 obtain ⟨cs, e, k⟩ := h.tms i (by rw [← h.len]; exact hi) hi
 rw [e]; simp [k.length]
theorem MkA.slice {S0 : Nat → Prop} {W wr : World} {l : List (Nm × Tm)} {v : Value} {xs : List (List Value)} (h : MkA S0 W wr l v xs) : AsV wr (Upto W wr S0) l v := by
 have ho := own_lt h.own
 have h13 := h.l13
 rcases h.own.2 with ⟨rfl, e⟩ | ⟨g, cap, cur, rfl, hb, hh, hn, _, hcs, hcur⟩
 · exact ⟨none, 0, by rw [e], by omega, fun h0 => by omega⟩
 · refine ⟨_, cap, rfl, hn, fun _ => ⟨g, 0, rfl, ⟨.inr (ho g rfl), _, _, hh⟩, fun i hi => ?_⟩⟩
   have hix : i < xs.length := by rw [h.len]; exact hi
   obtain ⟨cs, e, k⟩ := h.tms i hi hix
   refine ⟨cs, k.more fun b hb' => ?_, fun j u hj => ?_⟩
   · rcases hb'.1 with h0 | h0
     · exact .inl h0
     · exact .inr ⟨h0, hb'.2.1⟩
   · rw [← e] at hj
     have hf := flat13 xs i j u hix h13 hj
     rw [Nat.zero_add, cell_of_row _ _ _ _ _ _ hh]
     rw [← hcur] at hf
     rw [List.getElem?_take] at hf
     split at hf
     · simpa using hf
     · cases hf
def Rw.nn : Rw → Int
 | .mk _ n _ _ => n
def asP (PO : Rw → Ob → Prop) : List Rw → List (Nm × Tm) → Prop
 | _, [] => True
 | [], _ :: _ => False
 | r :: rs, a :: s => a.1 = vAt r.nn ∧ mtP PO r a.2 ∧ asP PO rs s
theorem asP_nil (PO : Rw → Ob → Prop) (l : List Rw) : asP PO l [] := by cases l <;> (unfold asP; trivial)
theorem asP_snoc (PO : Rw → Ob → Prop) : ∀ (l : List Rw) (s : List (Nm × Tm)) (a : Nm × Tm) (hi : s.length < l.length), asP PO l s → a.1 = vAt l[s.length].nn → mtP PO l[s.length] a.2 → asP PO l (s ++ [a])
 | r :: rs, [], a, _, _, h, h' => by
  show asP PO (r :: rs) [a]
  unfold asP
  exact ⟨h, h', asP_nil _ _⟩
 | r :: rs, x :: s, a, hi, h, h', h'' => by
  unfold asP at h
  show asP PO (r :: rs) (x :: (s ++ [a]))
  unfold asP
  exact ⟨h.1, h.2.1, asP_snoc PO rs s a (by simpa using hi) h.2.2 h' h''⟩
def AsL (PO : Rw → Ob → Prop) (Y wr : World) (l : List Rw) (i : Nat) (v : Value) : Prop := ∃ s xs, MkA NoB Y wr s v xs ∧ s.length = i ∧ asP PO l s
def RetAP (w : World) (P : List (Nm × Tm) → Prop) (e : Ending) (w' : World) : Prop := ∃ s v, e = .returned v ∧ AsV w' (Upto w w' NoB) s v ∧ Below w.heap.size w w' ∧ P s
def LAP (w0 : World) (x : Nm) (P : Tm → Prop) : Lv := fun v _ _ w => w0.heap.size ≤ w.heap.size ∧ ∃ t cs, v = .agg (Value.string x.1 :: Value.string x.2 :: cs).toArray ∧ TmAt w (Upto w0 w NoB) t cs ∧ P t
theorem mLAP (w0 : World) (x : Nm) (P : Tm → Prop) : Mon (LAP w0 x P) := fun _ _ _ _ _ ⟨h0, t, cs, h, k, hp⟩ _ hb => ⟨Nat.le_trans h0 hb.size, t, cs, h, TmAt.keep (fun b hb' => upto_more hb.size b hb') (fun b hb' => hb.block b (upto_lt (NoB.in _) h0 b hb')) _ _ k, hp⟩
def LAS (w0 : World) (x : Nm) (P : Tm → Prop) : Lv := fun v lo hi w => w0.heap.size ≤ w.heap.size ∧ ∃ t cs, v = .slice (some ⟨lo, 0, none⟩) 1 1 ∧ w.heap[lo]? = some (.cells (Value.string x.1 :: Value.string x.2 :: cs).toArray 64 (0, 0)) ∧ lo < hi ∧ TmAt w (Upto w0 w NoB) t cs ∧ P t
theorem mLAS (w0 : World) (x : Nm) (P : Tm → Prop) : Mon (LAS w0 x P) := fun _ _ _ _ _ ⟨h0, t, cs, h, hr, hl, k, hp⟩ hm hb => ⟨Nat.le_trans h0 hb.size, t, cs, h, (hb.block _ (by omega)).trans hr, hl, TmAt.keep (fun b hb' => upto_more hb.size b hb') (fun b hb' => hb.block b (upto_lt (NoB.in _) h0 b hb')) _ _ k, hp⟩
theorem news_at {w : World} {cs : Array Value} {t : TypeId} {b : Nat} (hb : w.heap[b]? = some (.cells cs t (0, 0))) : ∀ j u, cs.toList[j]? = some u → w.cell? ((⟨b, 0, none⟩ : Addr).add j) = some u := by
 intro j u hj
 have e : (Addr.add ⟨b, 0, none⟩ j) = ⟨b, j, none⟩ := by
  unfold Addr.add
  split
  · rename_i h; rw [h]
  · simp
 rw [e, cell_of_row _ _ _ _ _ _ hb]
 simpa using hj
def LTP (w0 : World) (P : Tm → Prop) : Lv := fun v _ _ w => w0.heap.size ≤ w.heap.size ∧ ∃ t cs, v = vTm cs ∧ TmAt w (Upto w0 w NoB) t cs ∧ P t
theorem mLTP (w0 : World) (P : Tm → Prop) : Mon (LTP w0 P) := fun _ _ _ _ _ ⟨h0, t, cs, h, k, hp⟩ _ hb => ⟨Nat.le_trans h0 hb.size, t, cs, h, TmAt.keep (fun b hb' => upto_more hb.size b hb') (fun b hb' => hb.block b (upto_lt (NoB.in _) h0 b hb')) _ _ k, hp⟩
theorem assignsT (PO : Rw → Ob → Prop) (hPO : OMk PO) (l : List Rw) (A : Option Addr) (c : Nat) (w : World) (S : Nat → Prop) (hS : In S w) (hL : l.length ≤ 8) (hc : l.length ≤ c) (ht : Tab w)
 (hA : 0 < l.length → ∃ b o, A = some ⟨b, o, none⟩ ∧ S b ∧ RawsAt w S b o l) (hok : ∀ r ∈ l, r.ok) :
 Calls Tryz.prog 39 #[.slice A l.length c] w (RetAP w (fun s => s.length = l.length ∧ asP PO l s)) := by
 have HI : Hid (∀ i (hi : i < l.length), ∀ w cs, In S w → RawAt w S l[i] cs → Tab w → Calls Tryz.prog 20 #[.agg cs.toArray] w (RetTP w (mtP PO l[i]))) := fun i hi w cs hS hr ht => madeT PO hPO l[i] cs w S hS hr (hok _ (List.getElem_mem hi)) ht
 have HT := hI ht
 have HS := hI hS
 have HA := hI hA
 clear ht hS hA hok
 obtain ⟨L, hLL⟩ : ∃ L, l.length = L := ⟨_, rfl⟩
 rw [hLL] at hL hc ⊢
 have HL := hI hLL
 clear hLL
 have HC := hI hc
 go_enter Tryz.func39, Tryz.ntmps39
 go_wp2_with fail
 refine (varsT 4 (by decide) w).mono ?_
 rintro e Y ⟨v, rfl, hv, hb2⟩
 have e4 : vN4.take 4 = vN4 := rfl
 rw [e4] at hv
 obtain ⟨Av, cv, rfl, hlc, hr⟩ := hv
 obtain ⟨bv, ov, rfl, hbv, hcell⟩ := hr (by decide)
 have hlen : vN4.length = 4 := rfl
 rw [hlen] at hlc ⊢
 have HLC := hI hlc
 have HCV := hI hcell
 have HBV : Hid (bv < Y.heap.size) := upto_lt (NoB.in w) hb2.size bv hbv.1
 have HBY := hI hb2
 obtain ⟨i0, hi0, hz0, hz1, hz2⟩ := infoA
 have HI0 := hI hi0
 have HZ0 := hI hz0
 have HZ1 := hI hz1
 have HZ2 := hI hz2
 have h0 : Hid (AsL PO Y Y l 0 (.slice none 0 0)) := ⟨[], [], MkA.start NoB _, rfl, asP_nil _ _⟩
 have HQ : Hid (∀ wo sl, AsL PO Y wo l L sl → RetAP w (fun s => s.length = L ∧ asP PO l s) (.returned sl) wo) := fun wo sl ⟨s, xs, hm, hl, hs⟩ =>
  ⟨s, sl, rfl, hm.slice.more fun b hb => by
   rcases hb with h | ⟨h, h'⟩
   · exact h.elim
   · exact .inr ⟨Nat.le_trans hb2.size h, h'⟩, hb2.trans (hm.bel.mono hb2.size), hl, hs⟩
 clear hi0 hz0 hz1 hz2 hr hbv hcell hb2 hlc hlen
 go_wp2_with fail
 go_loopw [4, 5] (fun u v wr => ∃ (i : Nat) (sl : Value), sl = u ∧ i ≤ L ∧ v = .int .i64 (i : Int) ∧ Hid (AsL PO Y wr l i sl)) (fun _ v _ => L - (intOf v).toNat)
 case atStart => exact ⟨0, _, rfl, Nat.zero_le _, rfl, h0⟩
 case round =>
  clear h0
  obtain ⟨i, sl, rfl, hiL, rfl, hE⟩ := hrel
  obtain ⟨wo, rfl⟩ : ∃ wo : World, wo = wr := ⟨_, rfl⟩
  by_cases hlt : i < L
  · obtain ⟨ss, xs, hM, htl, hts⟩ := hE.out
    have hB := HBY.out.trans (hM.bel.mono HBY.out.size)
    have hil : i < l.length := by rw [HL.out]; exact hlt
    obtain ⟨b, o, rfl, hb, hrs⟩ := HA.out (by omega)
    obtain ⟨cs, hcs, hcell⟩ := hrs.get hil
    have hcs' := hcs.below HS.out hB
    have ha0 : b < w.heap.size := HS.out b hb
    obtain ⟨z0, n, z2, z3, rfl, hnn, hn64⟩ : ∃ z0 n z2 z3, cs = [z0, .int .i64 n, z2, z3] ∧ l[i].nn = n ∧ I64 n := by
     generalize l[i] = r at hcs
     cases r with
     | mk k n s l => unfold RawAt at hcs; obtain ⟨A, c, e, _, hn, _⟩ := hcs; exact ⟨_, _, _, _, e, rfl, hn⟩
    have l0 := (hB.cell (p := ⟨b, o + i * 4 + 0, none⟩) ha0).trans (hcell 0 z0 rfl)
    have L1 := hI ((hB.cell (p := ⟨b, o + i * 4 + 1, none⟩) ha0).trans (hcell 1 _ rfl))
    have L2 := hI ((hB.cell (p := ⟨b, o + i * 4 + 2, none⟩) ha0).trans (hcell 2 z2 rfl))
    have L3 := hI ((hB.cell (p := ⟨b, o + i * 4 + 3, none⟩) ha0).trans (hcell 3 z3 rfl))
    rw [Nat.add_zero] at l0
    have L0 := hI l0
    have HLB : Hid (b < wo.heap.size) := Nat.lt_of_lt_of_le ha0 hB.size
    have HLV : Hid (bv < wo.heap.size) := Nat.lt_of_lt_of_le HBV.out hM.bel.size
    have CALL : Hid (∀ X, Below wo.heap.size wo X → Calls Tryz.prog 20 #[.agg #[z0, .int .i64 n, z2, z3]] X (RetTP X (mtP PO l[i]))) := fun X hX => by
     have hc := hB.trans (hX.mono hB.size)
     exact HI.out i hil X [z0, .int .i64 n, z2, z3] (HS.out.later hc.size) (hcs.below HS.out hc) (HT.out.below hc)
    have hm4 : ∀ X, Calls Tryz.prog 46 #[.int .i64 n, .int .i64 4] X (fun e w' => e = .returned (.int .i64 (n % 4)) ∧ X = w') := fun X => modO n 4 X hn64.1 hn64.2 (by decide) (by decide)
    have j0 := Int.emod_nonneg n (show (4 : Int) ≠ 0 by decide)
    have j1 := Int.emod_lt_of_pos n (show (0 : Int) < 4 by decide)
    obtain ⟨j, hj⟩ : ∃ j : Nat, n % 4 = j := ⟨(n % 4).toNat, by omega⟩
    rw [hj] at hm4 j1
    have hj4 : j < 4 := by omega
    have hj5 : j < vN4.length := hj4
    have HJ4 : Hid ((j : Int) < 4) := (by show _ < _; omega)
    obtain ⟨x, hx⟩ : ∃ x, vAt n = x := ⟨_, rfl⟩
    have hvx : vN4[j]'hj5 = x := by
     rw [← hx]
     unfold vAt
     rw [hj]
     show vN4[j]'hj5 = vN4.getD j _
     rw [List.getD_eq_getElem?_getD, List.getElem?_eq_getElem hj5]
     rfl
    obtain ⟨x0, x1⟩ := HCV.out j hj5
    rw [hvx] at x0 x1
    have X0 := hI ((hM.bel.cell (p := ⟨bv, ov + j * 2, none⟩) HBV.out).trans x0)
    have X1 := hI ((hM.bel.cell (p := ⟨bv, ov + j * 2 + 1, none⟩) HBV.out).trans x1)
    have MOC := hI hm4
    have HSN : Hid (∀ t, mtP PO l[i] t → asP PO l (ss ++ [(x, t)])) := fun t h => by
     refine asP_snoc PO l ss (x, t) (by rw [htl]; exact hil) hts ?_ ?_
     · simp only [htl]; rw [hnn]; exact hx.symm
     · simpa [htl] using h
    have HMK := hI hM
    have HTL := hI htl
    have hYs := hM.bel.size
    have hcv := HLC.out
    generalize l[i] = r at *
    clear hcell hcs hcs' hrs hB hM htl hts hE l0 x0 x1 hvx hx hj hm4 j0 j1
    go_wp2_with fail
    refine wp_region_grow (l := _) 17 (by kernel_rfl) (by kernel_rfl) (fun i => [13, 14, 15, 16, 17, 18, 19, 20, 21, 22, 23, 24, 25, 26, 27, 28, 29].getD i 0) (LR [LV (sl), LV (.slice (some ⟨bv, ov, none⟩) 4 cv), LV (.slice (some ⟨b, o, none⟩) L c), LV (.int .i64 (i : Int)), LV (.pointer (some ⟨b, o + i * 4, none⟩)), LV (.pointer (some ⟨b, o + i * 4 + 1, none⟩)), LV (.int .i64 n), LV (.int .i64 (j : Int)), LV (.pointer (some ⟨bv, ov + j * 2, none⟩)), LV (.agg #[.string x.1, .string x.2]), LV (.slice (some ⟨b, o, none⟩) L c), LV (.int .i64 (i : Int)), LV (.pointer (some ⟨b, o + i * 4, none⟩)), LV (.agg #[z0, .int .i64 n, z2, z3]), LTP wo (mtP PO r), LAP wo x (mtP PO r), LAS wo x (mtP PO r)]) (LR_mono ⟨mLV _, mLV _, mLV _, mLV _, mLV _, mLV _, mLV _, mLV _, mLV _, mLV _, mLV _, mLV _, mLV _, mLV _, mLTP wo _, mLAP wo _ _, mLAS wo _ _, trivial⟩) (by
     intro i j hi hj h
     exact inj_getD [13, 14, 15, 16, 17, 18, 19, 20, 21, 22, 23, 24, 25, 26, 27, 28, 29] (by decide) i j hi hj h) (by
     intro i hi
     exact lt_getD 32 [13, 14, 15, 16, 17, 18, 19, 20, 21, 22, 23, 24, 25, 26, 27, 28, 29] (by decide) i hi) ?step ?done
    case step =>
     intro ii hii a w9 v lo hi' hoth hb hw
     have sl4 : a.tmps[4]? = some (sl) := (hoth 4 (fun j hj => ne_getD 4 _ (by decide) j hj)).trans rfl
     have sl3 : a.tmps[3]? = some (.slice (some ⟨bv, ov, none⟩) 4 cv) := (hoth 3 (fun j hj => ne_getD 3 _ (by decide) j hj)).trans rfl
     have sl0 : a.tmps[0]? = some (.slice (some ⟨b, o, none⟩) L c) := (hoth 0 (fun j hj => ne_getD 0 _ (by decide) j hj)).trans rfl
     have sl5 : a.tmps[5]? = some (.int .i64 (i : Int)) := (hoth 5 (fun j hj => ne_getD 5 _ (by decide) j hj)).trans rfl
     match ii, hii with
     | 0, _ =>
      exact gw_move rfl (wanted_plain rfl) 4 _ rfl sl4 ⟨_, rfl, Below.refl _ _, rfl⟩
     | 1, _ =>
      exact gw_move rfl (wanted_plain rfl) 3 _ rfl sl3 ⟨_, rfl, Below.refl _ _, rfl⟩
     | 2, _ =>
      exact gw_move rfl (wanted_plain rfl) 0 _ rfl sl0 ⟨_, rfl, Below.refl _ _, rfl⟩
     | 3, _ =>
      exact gw_move rfl (wanted_plain rfl) 5 _ rfl sl5 ⟨_, rfl, Below.refl _ _, rfl⟩
     | 4, _ =>
      obtain ⟨s0, r0, _⟩ := hw 2 (by omega) (by kernel_rfl)
      have e0 : v 2 = .slice (some ⟨b, o, none⟩) L c := r0
      rw [e0] at s0
      replace s0 : a.tmps[15]? = some (.slice (some ⟨b, o, none⟩) L c) := s0
      obtain ⟨s1, r1, _⟩ := hw 3 (by omega) (by kernel_rfl)
      have e1 : v 3 = .int .i64 (i : Int) := r1
      rw [e1] at s1
      replace s1 : a.tmps[16]? = some (.int .i64 (i : Int)) := s1
      refine wpOp_step rfl fun K' hK' => ?_
      rw [if_pos (wanted_plain rfl)]
      unfold Oper.wp
      simp only [execOp]
      go_simp
      exact hK' _ _ ⟨_, rfl, Below.refl _ _, rfl⟩
     | 5, _ =>
      obtain ⟨s0, r0, _⟩ := hw 4 (by omega) (by kernel_rfl)
      have e0 : v 4 = .pointer (some ⟨b, o + i * 4, none⟩) := r0
      rw [e0] at s0
      replace s0 : a.tmps[17]? = some (.pointer (some ⟨b, o + i * 4, none⟩)) := s0
      refine wpOp_step rfl fun K' hK' => ?_
      rw [if_pos (wanted_plain rfl)]
      unfold Oper.wp
      simp only [execOp]
      go_simp
      exact hK' _ _ ⟨_, rfl, Below.refl _ _, rfl⟩
     | 6, _ =>
      obtain ⟨s0, r0, _⟩ := hw 5 (by omega) (by kernel_rfl)
      have e0 : v 5 = .pointer (some ⟨b, o + i * 4 + 1, none⟩) := r0
      rw [e0] at s0
      replace s0 : a.tmps[18]? = some (.pointer (some ⟨b, o + i * 4 + 1, none⟩)) := s0
      have cc := (hb.cell (p := ⟨b, o + i * 4 + 1, none⟩) HLB.out).trans L1.out
      refine wpOp_step rfl fun K' hK' => ?_
      rw [if_pos (wanted_plain rfl)]
      unfold Oper.wp
      simp only [execOp]
      go_simp
      exact hK' _ _ ⟨_, rfl, Below.refl _ _, rfl⟩
     | 7, _ =>
      obtain ⟨s0, r0, _⟩ := hw 6 (by omega) (by kernel_rfl)
      have e0 : v 6 = .int .i64 n := r0
      rw [e0] at s0
      replace s0 : a.tmps[19]? = some (.int .i64 n) := s0
      refine gw_tc rfl (wanted_plain rfl) 46 19 _ _ _ rfl (fun v u w => by go_simp) s0 ?_
      with_reducible refine (MOC.out w9).mono ?_
      rintro e w3 ⟨rfl, rfl⟩
      exact ⟨_, rfl, _, rfl, Below.refl _ _, rfl⟩
     | 8, _ =>
      obtain ⟨s0, r0, _⟩ := hw 1 (by omega) (by kernel_rfl)
      have e0 : v 1 = .slice (some ⟨bv, ov, none⟩) 4 cv := r0
      rw [e0] at s0
      replace s0 : a.tmps[14]? = some (.slice (some ⟨bv, ov, none⟩) 4 cv) := s0
      obtain ⟨s1, r1, _⟩ := hw 7 (by omega) (by kernel_rfl)
      have e1 : v 7 = .int .i64 (j : Int) := r1
      rw [e1] at s1
      replace s1 : a.tmps[20]? = some (.int .i64 (j : Int)) := s1
      refine wpOp_step rfl fun K' hK' => ?_
      rw [if_pos (wanted_plain rfl)]
      unfold Oper.wp
      simp only [execOp]
      go_simp
      rw [if_pos HJ4.out]
      exact hK' _ _ ⟨_, rfl, Below.refl _ _, rfl⟩
     | 9, _ =>
      obtain ⟨s0, r0, _⟩ := hw 8 (by omega) (by kernel_rfl)
      have e0 : v 8 = .pointer (some ⟨bv, ov + j * 2, none⟩) := r0
      rw [e0] at s0
      replace s0 : a.tmps[21]? = some (.pointer (some ⟨bv, ov + j * 2, none⟩)) := s0
      have cc0 := (hb.cell (p := ⟨bv, ov + j * 2, none⟩) HLV.out).trans X0.out
      have cc1 := (hb.cell (p := ⟨bv, ov + j * 2 + 1, none⟩) HLV.out).trans X1.out
      refine wpOp_step rfl fun K' hK' => ?_
      rw [if_pos (wanted_plain rfl)]
      unfold Oper.wp
      simp only [execOp]
      go_simp
      exact hK' _ _ ⟨_, rfl, Below.refl _ _, rfl⟩
     | 10, _ =>
      exact gw_move rfl (wanted_plain rfl) 0 _ rfl sl0 ⟨_, rfl, Below.refl _ _, rfl⟩
     | 11, _ =>
      exact gw_move rfl (wanted_plain rfl) 5 _ rfl sl5 ⟨_, rfl, Below.refl _ _, rfl⟩
     | 12, _ =>
      obtain ⟨s0, r0, _⟩ := hw 10 (by omega) (by kernel_rfl)
      have e0 : v 10 = .slice (some ⟨b, o, none⟩) L c := r0
      rw [e0] at s0
      replace s0 : a.tmps[23]? = some (.slice (some ⟨b, o, none⟩) L c) := s0
      obtain ⟨s1, r1, _⟩ := hw 11 (by omega) (by kernel_rfl)
      have e1 : v 11 = .int .i64 (i : Int) := r1
      rw [e1] at s1
      replace s1 : a.tmps[24]? = some (.int .i64 (i : Int)) := s1
      refine wpOp_step rfl fun K' hK' => ?_
      rw [if_pos (wanted_plain rfl)]
      unfold Oper.wp
      simp only [execOp]
      go_simp
      exact hK' _ _ ⟨_, rfl, Below.refl _ _, rfl⟩
     | 13, _ =>
      obtain ⟨s0, r0, _⟩ := hw 12 (by omega) (by kernel_rfl)
      have e0 : v 12 = .pointer (some ⟨b, o + i * 4, none⟩) := r0
      rw [e0] at s0
      replace s0 : a.tmps[25]? = some (.pointer (some ⟨b, o + i * 4, none⟩)) := s0
      have cc0 := (hb.cell (p := ⟨b, o + i * 4, none⟩) HLB.out).trans L0.out
      have cc1 := (hb.cell (p := ⟨b, o + i * 4 + 1, none⟩) HLB.out).trans L1.out
      have cc2 := (hb.cell (p := ⟨b, o + i * 4 + 2, none⟩) HLB.out).trans L2.out
      have cc3 := (hb.cell (p := ⟨b, o + i * 4 + 3, none⟩) HLB.out).trans L3.out
      refine wpOp_step rfl fun K' hK' => ?_
      rw [if_pos (wanted_plain rfl)]
      unfold Oper.wp
      simp only [execOp]
      go_simp
      exact hK' _ _ ⟨_, rfl, Below.refl _ _, rfl⟩
     | 14, _ =>
      obtain ⟨s0, r0, _⟩ := hw 13 (by omega) (by kernel_rfl)
      have e0 : v 13 = .agg #[z0, .int .i64 n, z2, z3] := r0
      rw [e0] at s0
      replace s0 : a.tmps[26]? = some (.agg #[z0, .int .i64 n, z2, z3]) := s0
      refine gw_t rfl (wanted_plain rfl) 20 26 _ _ rfl (fun v w => by go_simp) s0 ?_
      with_reducible refine (CALL.out w9 hb).mono ?_
      rintro e w3 ⟨t, ⟨cs3, rfl, h3, hb3⟩, hmt⟩
      exact ⟨_, rfl, _, rfl, hb3, Nat.le_trans hb.size hb3.size, t, cs3, rfl, h3.more (fun b hb' => up3 (Below.refl _ wo) hb b hb'), hmt⟩
     | 15, _ =>
      obtain ⟨s0, r0, _⟩ := hw 9 (by omega) (by kernel_rfl)
      have e0 : v 9 = .agg #[.string x.1, .string x.2] := r0
      rw [e0] at s0
      replace s0 : a.tmps[22]? = some (.agg #[.string x.1, .string x.2]) := s0
      obtain ⟨s1, r1, b1⟩ := hw 14 (by omega) (by kernel_rfl)
      obtain ⟨hz1, t1, cs1, e1, ht1, hm1⟩ := r1
      rw [e1] at s1
      obtain ⟨y0, y1, y2, y3, y4, y5, y6, A3, c3, ec, _, _⟩ := ht1.eleven
      subst ec
      unfold vTm at s1
      replace s1 : a.tmps[27]? = some (.agg #[.int .i64 t1.kd, .string t1.nm.1, .string t1.nm.2, y0, y1, y2, y3, y4, y5, y6, .slice A3 t1.args.length c3]) := s1
      refine wpOp_step rfl fun K' hK' => ?_
      rw [if_pos (wanted_plain rfl)]
      unfold Oper.wp
      simp only [execOp]
      go_simp
      exact hK' _ _ ⟨_, rfl, Below.refl _ _, Nat.le_trans hb.size (Nat.le_refl _), t1, _, rfl, ht1, hm1⟩
     | 16, _ =>
      obtain ⟨s0, r0, b0⟩ := hw 15 (by omega) (by kernel_rfl)
      obtain ⟨hz0, t0, cs0, e0, ht0, hm0⟩ := r0
      rw [e0] at s0
      have o1 := ht0.o11
      obtain ⟨y0, y1, y2, y3, y4, y5, y6, A3, c3, ec, _, _⟩ := ht0.eleven
      subst ec
      replace s0 : a.tmps[28]? = some (.agg #[.string x.1, .string x.2, .int .i64 t0.kd, .string t0.nm.1, .string t0.nm.2, y0, y1, y2, y3, y4, y5, y6, .slice A3 t0.args.length c3]) := s0
      refine wpOp_step rfl fun K' hK' => ?_
      rw [if_pos (wanted_plain rfl)]
      unfold Oper.wp
      simp only [execOp]
      go_simp
      exact hK' _ _ ⟨_, rfl, below_alT _ _, Nat.le_trans hb.size (below_alT _ _).size, t0, _, rfl, heap_alloc_new _ _, by simp, (ht0.below (fun b hb' => upto_lt (NoB.in _) hb.size b hb') (below_alT _ _)).more (fun b hb' => upto_more (below_alT _ _).size b hb'), hm0⟩
     | k + 17, h => exact absurd h (by omega)
    case done =>
     intro a w9 v lo hi' hdef hsz hoth hb hj hap
     obtain ⟨_, hv0, _, _⟩ := hj 0 (by omega)
     obtain ⟨_, hv9, _, _⟩ := hj 9 (by omega)
     obtain ⟨_, ⟨hz16, t, cs3, hv16, hrow, hlt16, h3, hmt⟩, hlo16, hhi16⟩ := hj 16 (by omega)
     have ha := eq_puts hdef hsz hoth (fun i hi => (hj i hi).1)
     subst ha
     clear hj hoth hdef hsz hap
     change v 0 = _ at hv0
     change v 9 = _ at hv9
     simp only [puts, List.getD_cons_zero, List.getD_cons_succ, hv0, hv9, hv16]
     generalize v 1 = v1
     generalize v 2 = v2
     generalize v 3 = v3
     generalize v 4 = v4
     generalize v 5 = v5
     generalize v 6 = v6
     generalize v 7 = v7
     generalize v 8 = v8
     generalize v 10 = v10
     generalize v 11 = v11
     generalize v 12 = v12
     generalize v 13 = v13
     generalize v 14 = v14
     generalize v 15 = v15
     clear hv0 hv9 hv16
     simp only [Act.put, List.setIfInBounds_toArray, List.set_cons_zero, List.set_cons_succ]
     show wpList _ _ _ [_, _] _ _
     obtain ⟨y0, y1, y2, y3, y4, y5, y6, A3, c3, e3, _, _⟩ := h3.eleven
     have O1 := hI h3.o11
     have own3 := hI (HMK.out.below hb).own
     rw [HTL.out] at own3
     have HSTEP : Hid (∀ v' w4, w4.ownsRow Y.heap.size 64 13 v' (i + 1) (xs.flatten ++ Value.string x.1 :: Value.string x.2 :: cs3) → w9.grownBy w4 sl.ownBlock → (v'.ownBlock = sl.ownBlock ∨ v'.ownBlock = some w9.heap.size) → AsL PO Y w4 l (i + 1) v') :=
      fun v' w4 h4 hg hat => ⟨_, _, HMK.out.step2 (NoB.in _) hb h3 (by rw [HTL.out]; exact h4) hg hat, by rw [List.length_append, HTL.out]; rfl, HSN.out t hmt⟩
     have hone : ∀ u ∈ (Value.string x.1 :: Value.string x.2 :: cs3), u.oneCell' = true := by
      intro u hu
      rcases List.mem_cons.1 hu with rfl | hu
      · rfl
      · rcases List.mem_cons.1 hu with rfl | hu
        · rfl
        · exact O1.out.2 u hu
     have hnews : ∀ j u, (Value.string x.1 :: Value.string x.2 :: cs3)[j]? = some u → w9.cell? ((⟨lo 16, 0, none⟩ : Addr).add j) = some u := news_at hrow
     have hs3 : Y.heap.size ≤ w9.heap.size := by have := hb.size; omega
     subst e3
     have HONE := hI hone
     have HNEWS := hI hnews
     generalize lo 16 = q at *
     clear h3 hb CALL hone hnews hmt HSN HMK hYs
     go_wp2_with (at_builtin; refine wpList_append_own_at _ rfl (.tmp 13) (.tmp 29) _ rfl Y.heap.size 64 i0 _ 13 208 Tryz.underlying60 HI0.out HZ0.out HZ1.out HZ2.out rfl (by omega) sl i xs.flatten rfl own3.out ⟨q, 0, none⟩ 1 1 [.string x.1, .string x.2, .int .i64 t.kd, .string t.nm.1, .string t.nm.2, y0, y1, y2, y3, y4, y5, y6, .slice A3 t.args.length c3] rfl rfl HNEWS.out HONE.out (by simp only [maxLen]; omega) (by omega) hs3 ?_; intro v4 w4 hown4 hg4 hnil4 hat4; have hst := hI (HSTEP.out v4 w4 hown4 hg4 hat4); clear hown4 hg4 hnil4 hat4)
     go_roundw
     case rel => exact ⟨i + 1, _, rfl, by omega, by go_num, hst⟩
     case measure => simp [intOf]; omega
  · have hiL2 : i = L := by omega
    have hn : ¬ (i : Int) < L := by omega
    have hr := hI (HQ.out wo sl (hiL2 ▸ hE.out))
    clear hE hiL2 hlt
    go_wp2
    go_ret
    exact hr.out
def compA (a b : List (Nm × Tm)) : List (Nm × Tm) := a.map (fun p => (p.1, subT b p.2)) ++ b
theorem findA_comp (a b : List (Nm × Tm)) (x : Nm) : findA (compA a b) x = match findA a x with
 | some t => some (subT b t)
 | none => findA b x := by
 induction a with
 | nil => rfl
 | cons p r ih =>
  show findA ((p.1, subT b p.2) :: compA r b) x = match findA (p :: r) x with
   | some t => some (subT b t)
   | none => findA b x
  have hc : ∀ (q : Nm × Tm) (l : List (Nm × Tm)), findA (q :: l) x = if eqN q.1 x = true then some q.2 else findA l x := fun _ _ => rfl
  rw [hc, hc]
  by_cases h : eqN p.1 x = true
  · rw [if_pos h, if_pos h]
  · rw [if_neg h, if_neg h, ih]
theorem subT_comp (a b : List (Nm × Tm)) : ∀ t : Tm, subT b (subT a t) = subT (compA a b) t := by
 intro t
 induction t using Tm.ind with
 | hv x =>
  have e1 : subT a (.var x) = match findA a x with
   | some t => t
   | none => .var x := by unfold subT; rfl
  have e2 : subT (compA a b) (.var x) = match findA (compA a b) x with
   | some t => t
   | none => .var x := by unfold subT; rfl
  rw [e1, e2, findA_comp]
  cases h : findA a x with
  | some t => rfl
  | none =>
   show subT b (.var x) = _
   unfold subT; rfl
 | hc o => unfold subT; unfold subT; rfl
 | ha f l ih =>
  have e1 : ∀ s, subT s (.app f l) = .app f (l.map (subT s)) := fun s => by unfold subT; rw [subTs_map]
  rw [e1, e1]
  unfold subT
  rw [subTs_map, List.map_map]
  congr 1
  exact List.map_congr_left fun x hx => ih x hx
theorem findA_mem {s : List (Nm × Tm)} {x : Nm} {t : Tm} (h : findA s x = some t) : ∃ p ∈ s, p.2 = t := by
 induction s with
 | nil => cases h
 | cons p r ih =>
  unfold findA at h
  split at h
  · injection h with h
    exact ⟨p, by simp, h⟩
  · obtain ⟨q, hq, e⟩ := ih h
    exact ⟨q, by simp [hq], e⟩
theorem subVar_cases (s : List (Nm × Tm)) (x : Nm) : subT s (.var x) = .var x ∨ ∃ p ∈ s, subT s (.var x) = p.2 := by
 have e1 : subT s (.var x) = match findA s x with
  | some t => t
  | none => .var x := by unfold subT; rfl
 rw [e1]
 cases h : findA s x with
 | none => exact .inl rfl
 | some t =>
  obtain ⟨p, hp, e⟩ := findA_mem h
  exact .inr ⟨p, hp, e.symm⟩
mutual
theorem subT_nodes {PO : Rw → Ob → Prop} {s : List (Nm × Tm)} {N : Nat} (hN : 4 ≤ N) (hs : ∀ p ∈ s, p.2.nodes ≤ N) : ∀ (r : Rw) (t : Tm), mtP PO r t → (subT s t).nodes ≤ N * r.cnt
 | .mk k n b l, t, h => by
  unfold mtP at h
  unfold Rw.cnt
  have hm : N * (1 + Rw.cnts l) = N + N * Rw.cnts l := by rw [Nat.mul_add, Nat.mul_one]
  split at h
  · subst h
    rcases subVar_cases s (vAt n) with e | ⟨p, hp, e⟩
    · rw [e]; unfold Tm.nodes; omega
    · rw [e]; have := hs p hp; omega
  · split at h
    · obtain ⟨o, rfl, _, ho⟩ := h
      have h1 := ho.nodes
      have h2 : 4 * (1 + Rw.cnts l) ≤ N * (1 + Rw.cnts l) := Nat.mul_le_mul_right _ hN
      unfold subT Tm.nodes; omega
    · obtain ⟨ts, rfl, _, h2⟩ := h
      have := subTs_nodes hN hs l ts h2
      unfold subT Tm.nodes; omega
theorem subTs_nodes {PO : Rw → Ob → Prop} {s : List (Nm × Tm)} {N : Nat} (hN : 4 ≤ N) (hs : ∀ p ∈ s, p.2.nodes ≤ N) : ∀ (l : List Rw) (ts : List Tm), mtsP PO l ts → Tm.nodesL (subTs s ts) ≤ N * Rw.cnts l
 | _, [], _ => by unfold subTs Tm.nodesL; omega
 | [], _ :: _, h => by unfold mtsP at h; exact h.elim
 | r :: rs, t :: ts, h => by
  unfold mtsP at h
  unfold subTs Tm.nodesL Rw.cnts
  have h1 := subT_nodes hN hs r t h.1
  have h2 := subTs_nodes hN hs rs ts h.2
  rw [Nat.mul_add]; omega
end
mutual
theorem subT_bd {s : List (Nm × Tm)} {k : Nat} (hs : ∀ p ∈ s, p.2.bd k) : ∀ t : Tm, t.bd k → (subT s t).bd k
 | .var x, h => by
  rcases subVar_cases s x with e | ⟨p, hp, e⟩
  · rw [e]; exact h
  · rw [e]; exact hs p hp
 | .con o, h => by unfold subT; exact h
 | .app f l, h => by
  unfold Tm.bd at h
  unfold subT Tm.bd
  exact subTs_bd hs l h
theorem subTs_bd {s : List (Nm × Tm)} {k : Nat} (hs : ∀ p ∈ s, p.2.bd k) : ∀ l : List Tm, Tm.bdL k l → Tm.bdL k (subTs s l)
 | [], _ => by unfold subTs Tm.bdL; trivial
 | t :: l, h => by
  unfold Tm.bdL at h
  unfold subTs Tm.bdL
  exact ⟨subT_bd hs t h.1, subTs_bd hs l h.2⟩
end
theorem asP_all {PO : Rw → Ob → Prop} {N : Nat} : ∀ (l : List Rw) (s : List (Nm × Tm)), (∀ i (hi : i < l.length), (l[i].cnt : Int) ≤ N) → asP PO l s → ∀ p ∈ s, p.2.nodes ≤ 4 * N ∧ p.2.bd 10 ∧ p.1 ∈ vN4 ∧ ∃ r, mtP PO r p.2 ∧ r.cnt ≤ N
 | _, [], _, _, p, hp => by simp at hp
 | [], _ :: _, _, h, p, hp => by unfold asP at h; exact h.elim
 | r :: rs, a :: s, hl, h, p, hp => by
  unfold asP at h
  obtain ⟨h1, h2, h3⟩ := h
  have h0 := hl 0 (by simp)
  have h0' : (r.cnt : Int) ≤ N := h0
  rcases List.mem_cons.1 hp with rfl | hp
  · refine ⟨?_, mtP_bd _ _ h2, ?_, r, h2, by omega⟩
    · have := mtP_nodes _ _ h2; omega
    · rw [h1]
      unfold vAt
      have hlt : (r.nn % 4).toNat < 4 := by omega
      rw [List.getD_eq_getElem?_getD, List.getElem?_eq_getElem (show (r.nn % 4).toNat < vN4.length from hlt)]
      exact List.getElem_mem _
  · exact asP_all rs s (fun i hi => hl (i + 1) (by simpa using hi)) h3 p hp
theorem flat13_inv : ∀ (ys : List (List Value)) (j : Nat) (u : Value), (∀ y ∈ ys, y.length = 13) → ys.flatten[j]? = some u → ∃ i r, j = i * 13 + r ∧ ∃ hi : i < ys.length, ys[i][r]? = some u
 | [], j, u, _, h => by simp at h
 | y :: ys, j, u, hl, h => by
  have hy := hl y (by simp)
  rw [List.flatten_cons] at h
  by_cases hj : j < y.length
  · rw [List.getElem?_append_left hj] at h
    exact ⟨0, j, by omega, by simp, h⟩
  · rw [List.getElem?_append_right (by omega), hy] at h
    obtain ⟨i, r, e, hi, h2⟩ := flat13_inv ys (j - 13) u (fun z hz => hl z (by simp [hz])) h
    exact ⟨i + 1, r, by omega, by simpa using hi, by simpa using h2⟩
theorem flatten13_len : ∀ (ys : List (List Value)), (∀ y ∈ ys, y.length = 13) → ys.flatten.length = ys.length * 13
 | [], _ => rfl
 | y :: ys, hl => by
  have := flatten13_len ys (fun z hz => hl z (by simp [hz]))
  have hy := hl y (by simp)
  simp only [List.flatten_cons, List.length_append, List.length_cons]
  omega
theorem AsV.rows {w : World} {S : Nat → Prop} {s : List (Nm × Tm)} {v : Value} (h : AsV w S s v) (h0 : 0 < s.length) : ∃ b o c, ∃ ys : List (List Value), v = .slice (some ⟨b, o, none⟩) s.length c ∧ s.length ≤ c ∧ ys.length = s.length ∧ (∀ y ∈ ys, y.length = 13) ∧ (∀ u ∈ ys.flatten, u.oneCell' = true) ∧
 (∀ j u, ys.flatten[j]? = some u → w.cell? ((⟨b, o, none⟩ : Addr).add j) = some u) ∧ ∀ i (hi : i < s.length) (hy : i < ys.length), ∃ cs, ys[i] = Value.string s[i].1.1 :: Value.string s[i].1.2 :: cs ∧ TmAt w S s[i].2 cs := by
 obtain ⟨A, c, h1, h2, h3⟩ := h
 obtain ⟨b, o, rfl, _, hr⟩ := h3 h0
 have hc : ∀ i : Fin s.length, ∃ cs, TmAt w S s[i.1].2 cs ∧ ∀ j u, (Value.string s[i.1].1.1 :: Value.string s[i.1].1.2 :: cs)[j]? = some u → w.cell? ⟨b, o + i.1 * 13 + j, none⟩ = some u := fun i => hr i.1 i.2
 let F : Fin s.length → List Value := fun i => Value.string s[i.1].1.1 :: Value.string s[i.1].1.2 :: Classical.choose (hc i)
 have hF : ∀ i, F i = Value.string s[i.1].1.1 :: Value.string s[i.1].1.2 :: Classical.choose (hc i) := fun _ => rfl
 have hlen : ∀ i, (F i).length = 13 := fun i => by
  have := (Classical.choose_spec (hc i)).1.length
  rw [hF]; simp [this]
 have hget : ∀ i (hi : i < s.length) (hy : i < (List.ofFn F).length), (List.ofFn F)[i] = F ⟨i, hi⟩ := fun i hi hy => by simp
 have h13 : ∀ y ∈ List.ofFn F, y.length = 13 := fun y hy => by
  obtain ⟨i, hi, rfl⟩ := List.getElem_of_mem hy
  rw [hget i (by simpa using hi) hi]; exact hlen _
 refine ⟨b, o, c, List.ofFn F, h1, h2, by simp, h13, fun u hu => ?_, fun j u hj => ?_, fun i hi hy => ?_⟩
 · obtain ⟨y, hy, hu⟩ := List.mem_flatten.1 hu
   obtain ⟨i, hi, rfl⟩ := List.getElem_of_mem hy
   rw [hget i (by simpa using hi) hi, hF] at hu
   rcases List.mem_cons.1 hu with rfl | hu
   · rfl
   · rcases List.mem_cons.1 hu with rfl | hu
     · rfl
     · exact (Classical.choose_spec (hc ⟨i, by simpa using hi⟩)).1.one u hu
 · obtain ⟨i, r, rfl, hi, h2⟩ := flat13_inv _ j u h13 hj
   have hi2 : i < s.length := by simpa using hi
   rw [hget i hi2 hi, hF] at h2
   have h3 := (Classical.choose_spec (hc ⟨i, hi2⟩)).2 r u h2
   have e : ((⟨b, o, none⟩ : Addr).add (i * 13 + r)) = ⟨b, o + i * 13 + r, none⟩ := by
    unfold Addr.add
    split
    · rename_i hz
      have : i = 0 ∧ r = 0 := by omega
      rw [this.1, this.2]; rfl
    · simp [Nat.add_assoc]
   rw [e]; exact h3
 · refine ⟨_, by rw [hget i hi hy], (Classical.choose_spec (hc ⟨i, hi⟩)).1⟩
theorem MkA.appends {S0 : Nat → Prop} {W wo w4 : World} {l s : List (Nm × Tm)} {v v' : Value} {xs ys : List (List Value)} (h : MkA S0 W wo l v xs) (hS : In S0 W) (hyl : ys.length = s.length)
 (hy : ∀ i (hi : i < s.length) (hy : i < ys.length), ∃ cs, ys[i] = Value.string s[i].1.1 :: Value.string s[i].1.2 :: cs ∧ TmAt wo S0 s[i].2 cs)
 (h4 : w4.ownsRow W.heap.size 64 13 v' (l.length + s.length) (xs.flatten ++ ys.flatten)) (hg : wo.grownBy w4 v.ownBlock) (hat : v'.ownBlock = v.ownBlock ∨ v'.ownBlock = some wo.heap.size) :
 MkA S0 W w4 (l ++ s) v' (xs ++ ys) := by
 have hown := own_lt h.own
 have h34 := hg.size
 have hsW := h.bel.size
 have blk : ∀ b, b < wo.heap.size → v.ownBlock ≠ some b → w4.heap[b]? = wo.heap[b]? := fun b hb' hne =>
  hg.block b (by omega) (fun e => hne e.symm)
 have hne' : ∀ b, b < wo.heap.size → v.ownBlock ≠ some b → v'.ownBlock ≠ some b := fun b hb' hne e => by
  rcases hat with h0 | h0
  · exact hne (h0.symm.trans e)
  · rw [h0] at e
    have : wo.heap.size = b := by injection e
    omega
 refine ⟨by simp [h.len, hyl], by rw [List.length_append, List.flatten_append]; exact h4, fun i hi hx => ?_, ?_⟩
 · by_cases hil : i < l.length
   · have hix : i < xs.length := by rw [h.len]; exact hil
     rw [List.getElem_append_left hil, List.getElem_append_left hix]
     obtain ⟨cs0, e0, k0⟩ := h.tms i hil hix
     refine ⟨cs0, e0, TmAt.keep (fun b hb' => ⟨hb'.1, by omega, hne' b (by omega) hb'.2.2⟩) (fun b hb' => ?_) _ _ k0⟩
     rw [blk b (by omega) hb'.2.2]
   · have hix : ¬ i < xs.length := by rw [h.len]; exact hil
     rw [List.getElem_append_right (by omega), List.getElem_append_right (by omega)]
     have hi2 : i - l.length < s.length := by simp at hi; omega
     have e : i - xs.length = i - l.length := by rw [h.len]
     obtain ⟨cs, e1, k⟩ := hy (i - l.length) hi2 (by omega)
     have hn : ∀ b, S0 b → b < wo.heap.size ∧ v.ownBlock ≠ some b := fun b hb' => by
      have := hS b hb'
      exact ⟨by omega, fun e => by have := (hown b e).1; omega⟩
     refine ⟨cs, by simp only [e]; exact e1, TmAt.keep (fun b hb' => ?_) (fun b hb' => ?_) _ _ k⟩
     · obtain ⟨h1, h2⟩ := hn b hb'
       exact ⟨.inl hb', by omega, hne' b h1 h2⟩
     · obtain ⟨h1, h2⟩ := hn b hb'
       exact blk b h1 h2
 · exact h.bel.grown hg h.bel.size (fun k hk => by have := (hown k hk).1; omega)
def LCP (w0 : World) (S : Nat → Prop) (x : Nm) (t : Tm) : Lv := fun v _ _ w => w0.heap.size ≤ w.heap.size ∧ ∃ cs, v = .agg (Value.string x.1 :: Value.string x.2 :: cs).toArray ∧ TmAt w (Upto w0 w S) t cs
theorem mLCP {w0 : World} {S : Nat → Prop} (hS : In S w0) (x : Nm) (t : Tm) : Mon (LCP w0 S x t) := fun _ _ _ _ _ ⟨h0, cs, h, k⟩ _ hb => ⟨Nat.le_trans h0 hb.size, cs, h, TmAt.keep (fun b hb' => upto_more hb.size b hb') (fun b hb' => hb.block b (upto_lt hS h0 b hb')) _ _ k⟩
def LCS (w0 : World) (S : Nat → Prop) (x : Nm) (t : Tm) : Lv := fun v lo hi w => w0.heap.size ≤ w.heap.size ∧ ∃ cs, v = .slice (some ⟨lo, 0, none⟩) 1 1 ∧ w.heap[lo]? = some (.cells (Value.string x.1 :: Value.string x.2 :: cs).toArray 64 (0, 0)) ∧ lo < hi ∧ TmAt w (Upto w0 w S) t cs
theorem mLCS {w0 : World} {S : Nat → Prop} (hS : In S w0) (x : Nm) (t : Tm) : Mon (LCS w0 S x t) := fun _ _ _ _ _ ⟨h0, cs, h, hr, hl, k⟩ hm hb => ⟨Nat.le_trans h0 hb.size, cs, h, (hb.block _ (by omega)).trans hr, hl, TmAt.keep (fun b hb' => upto_more hb.size b hb') (fun b hb' => hb.block b (upto_lt hS h0 b hb')) _ _ k⟩
theorem wpList_appendA {ops : Array Oper} {rest : List Oper} {o : Oper} {a : Act} {wo : World} {Q : Exit → Act → World → Prop} (hgd : o.guard = none) (sx tx : Operand)
 (ho : o.op = .call { callee := .builtin .append, args := #[sx, tx], argTypes := #[60, 60] })
 {S0 : Nat → Prop} {W : World} {l s : List (Nm × Tm)} {sl v2 : Value} {xs : List (List Value)} (h : MkA S0 W wo l sl xs) (hS : In S0 W) (hv : AsV wo S0 s v2) (hs : a.eval sx = sl) (hx : a.eval tx = v2) (hlen : l.length + s.length ≤ 100000)
 (K : ∀ v' w4, (∃ zs, MkA S0 W w4 (l ++ s) v' zs) → wpList Tryz.prog ops Q rest (a.put o.dst v') w4) : wpList Tryz.prog ops Q (o :: rest) a wo := by
 obtain ⟨i0, hi0, hz0, hz1, hz2⟩ := infoA
 by_cases h0 : s.length = 0
 · have e0 : s = [] := List.length_eq_zero_iff.1 h0
   subst e0
   obtain ⟨A, c, rfl, _, _⟩ := hv
   obtain ⟨base, n, cap, rfl, hle⟩ : ∃ base n cap, sl = .slice base n cap ∧ n ≤ cap := by
    rcases h.own.2 with ⟨rfl, _⟩ | ⟨g, cap, cur, rfl, _, _, hn, _⟩
    · exact ⟨_, _, _, rfl, Nat.le_refl _⟩
    · exact ⟨_, _, _, rfl, hn⟩
   have hsrc : Src Tryz.prog i0.size 60 (.slice A ([] : List (Nm × Tm)).length c) 0 [] wo := by
    cases A with
    | none => exact Src.ofNil wo Tryz.underlying60 c
    | some ad => exact Src.ofSlice wo Tryz.underlying60 ad 0 c [] (by simp) (by simp) (by simp)
   refine wpList_plain hgd fun K' hK' => ?_
   have hr := run_append_nothing (P := Tryz.prog) wo 60 60 o.type 64 i0 Tryz.underlying60 hi0 base n cap hle _ hsrc
   unfold Oper.wp
   simp [execOp, ho, resolve, invoke, builtin, hs, hx, Result.andThen]
   simp only [List.length_nil] at hr
   rw [hr]
   exact hK' _ _ (K _ _ ⟨xs, by rw [List.append_nil]; exact h⟩)
 · obtain ⟨b, off, c, ys, rfl, _, hyl, hy13, hone, hnews, hyr⟩ := hv.rows (by omega)
   have hnl : ys.flatten.length = s.length * 13 := by rw [flatten13_len ys hy13, hyl]
   refine wpList_append_own_at _ hgd sx tx _ ho W.heap.size 64 i0 _ 13 208 Tryz.underlying60 hi0 hz0 hz1 hz2 rfl (by omega) sl l.length xs.flatten hs h.own ⟨b, off, none⟩ s.length c ys.flatten hx hnl hnews hone (by unfold maxLen; omega) (by omega) h.bel.size ?_
   intro v' w4 hown4 hg4 _ hat4
   exact K v' w4 ⟨xs ++ ys, h.appends hS hyl hyr hown4 hg4 hat4⟩
end Go.Proofs.YtlocnkobancjmaaGreatDoor
