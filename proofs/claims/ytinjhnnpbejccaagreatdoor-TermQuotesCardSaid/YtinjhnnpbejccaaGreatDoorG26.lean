/- What lies in memory between the rounds of names. -/
import Derived.Test.YtinjhnnpbejccaaGreatDoorG24
import Derived.Test.YtinjhnnpbejccaaGreatDoorG25
namespace Go.Proofs.YtinjhnnpbejccaaGreatDoor
open Go Go.RowKit
set_option linter.unusedVariables false
theorem keepsFrom_below {B : Nat} {W W' : World} (h : Below W.heap.size W W') : KeepsFrom B W W' :=
 ⟨h.size, fun k o _ hk _ => (h.block k (Array.getElem?_eq_some_iff.1 hk).1).trans hk⟩
theorem grown_below {W W' : World} (h : Below W.heap.size W W') (row : Option Nat) : W.grownBy W' row :=
 ⟨h.os, h.tape, h.output, h.size, fun k hk _ => h.block k hk⟩
theorem symL_inj {p n p' n' : ByteArray} (hp : p.size ≤ maxLen) (hn : n.size ≤ maxLen) (hp' : p'.size ≤ maxLen) (hn' : n'.size ≤ maxLen) (h : symL p n = symL p' n') : p = p' ∧ n = n' := by
 unfold symL at h
 have h1 := keyBytes_inj (l := [.string p.data.toList, .string n.data.toList]) (l' := [.string p'.data.toList, .string n'.data.toList]) ⟨trivial, trivial, trivial⟩
  (by intro a ha; simp only [List.mem_cons, List.not_mem_nil, or_false] at ha; rcases ha with rfl | rfl <;> (show _ ≤ maxLen; first | exact hp | exact hn))
  (by intro a ha; simp only [List.mem_cons, List.not_mem_nil, or_false] at ha; rcases ha with rfl | rfl <;> (show _ ≤ maxLen; first | exact hp' | exact hn')) (by injection h)
 simp only [List.cons.injEq, Lit.string.injEq, and_true] at h1
 exact ⟨ByteArray.ext (Array.toList_inj.1 h1.1), ByteArray.ext (Array.toList_inj.1 h1.2)⟩
def addN (kd : Int) (acc : List Nm) (t : Tm) : List Nm := if (t.kd == kd && !(acc.any fun s => eqN s t.nm)) = true then acc ++ [t.nm] else acc
def namesF (kd : Int) (L : List Tm) : List Nm := L.foldl (addN kd) []
theorem namesF_snoc (kd : Int) (L : List Tm) (t : Tm) : namesF kd (L ++ [t]) = addN kd (namesF kd L) t := by simp [namesF]
theorem row_add {W : World} {g : Nat} {cs : Array Value} {t : TypeId} (h : W.heap[g]? = some (.cells cs t (0, 0))) (j : Nat) (u : Value) (hj : cs[j]? = some u) : W.cell? ((⟨g, 0, none⟩ : Addr).add j) = some u := by
 have e : ((⟨g, 0, none⟩ : Addr).add j) = ⟨g, j, none⟩ := by
  unfold Addr.add
  split
  · rename_i h0; rw [h0]
  · simp
 rw [e, cell_of_row _ _ _ _ _ _ h]; exact hj
theorem namesF_len (kd : Int) (L : List Tm) : (namesF kd L).length ≤ L.length := by
 have h : ∀ (L : List Tm) (acc : List Nm), (L.foldl (addN kd) acc).length ≤ acc.length + L.length := by
  intro L
  induction L with
  | nil => intro acc; simp
  | cons t L ih =>
   intro acc
   have h1 := ih (addN kd acc t)
   have h2 : (addN kd acc t).length ≤ acc.length + 1 := by unfold addN; split <;> simp
   simp only [List.foldl_cons, List.length_cons]; omega
 have := h L []
 simpa [namesF] using this
def flatN (l : List Nm) : List Value := l.flatMap fun s => [.string s.1, .string s.2]
set_option maxRecDepth 100000 in
theorem zeroBl (w : World) : (zeroValue 4).run Tryz.prog w = .ok (.bool false) w := by kernel_rfl
set_option maxRecDepth 100000 in
theorem plain_bool {x : Bool} : plainElem (H := Unit) Tryz.prog 4 (.bool x) = some (.lit (.bool x), []) := by
 unfold plainElem
 rw [Tryz.underlying4]
set_option maxRecDepth 100000 in
theorem plain_bool_inv {v : Value} {d : DataW Unit} {ps : List MemPlace} (h : plainElem (H := Unit) Tryz.prog 4 v = some (d, ps)) : ∃ x, v = .bool x ∧ d = .lit (.bool x) := by
 unfold plainElem at h
 rw [Tryz.underlying4] at h
 cases v <;> simp at h
 exact ⟨_, rfl, h.1.symm⟩
def NmI {w0 : World} {S : Nat → Prop} (kd : Int) (w Y : World) (pre : List (Spot w0 S)) (W : World) : Prop := ∃ sl D, W.heap[w.heap.size + 1]? = some (.cells #[sl] 46 (0, 0)) ∧
 W.ownsRow Y.heap.size 23 2 sl (namesF kd (pre.map Spot.tm)).length (flatN (namesF kd (pre.map Spot.tm))) ∧
 W.ownsMap Tryz.prog 23 (plainElem (H := Unit) Tryz.prog 4) (w.heap.size + 1 + 1) pre.length D ∧ Maps.IsMap D ∧
 (∀ s : Nm, s.1.size ≤ maxLen → s.2.size ≤ maxLen → D.atKey (symL s.1 s.2) (.lit (.bool false)) = .lit (.bool ((namesF kd (pre.map Spot.tm)).any fun x => eqN x s))) ∧
 Below w.heap.size w W ∧ KeepC Y.heap.size (fun k => k = w.heap.size + 1 ∨ k = w.heap.size + 1 + 1) Y W
set_option maxRecDepth 100000 in
theorem NmI.below {w0 : World} {S : Nat → Prop} {kd : Int} {w Y : World} {pre pre' : List (Spot w0 S)} {W W' : World} (h : NmI kd w Y pre W) (hb : Below W.heap.size W W') (he : namesF kd (pre'.map Spot.tm) = namesF kd (pre.map Spot.tm)) (hl : pre.length ≤ pre'.length) : NmI kd w Y pre' W' := by
 obtain ⟨sl, D, h1, h2, h3, h4, h5, h6, h7⟩ := h
 exact ⟨sl, D, (hb.block _ (lt_row h1)).trans h1, by rw [he]; exact own_keep h2 (fun g hg => hb.block g (own_lt h2 g hg).2), (h3.kept (grown_below hb none) (by simp)).mono hl, h4, by rw [he]; exact h5, h6.trans (hb.mono h6.size), h7.trans (KeepC.of_below hb)⟩
set_option maxRecDepth 100000 in
theorem NmI.look {w0 : World} {S : Nat → Prop} {kd : Int} {w Y : World} {pre : List (Spot w0 S)} {W : World} (h : NmI kd w Y pre W) (s : Nm) (h1 : s.1.size ≤ maxLen) (h2 : s.2.size ≤ maxLen) (w9 : World) (hb : Below W.heap.size W w9) :
 (Instr.lookup 123 (.map (some (w.heap.size + 1 + 1))) (.agg #[.string s.1, .string s.2]) false).run Tryz.prog w9 = .ok (.bool ((namesF kd (pre.map Spot.tm)).any fun x => eqN x s)) w9 := by
 obtain ⟨sl, D, _, _, h3, _, h5, _, _⟩ := h
 obtain ⟨v, ps, hr, hv⟩ := (h3.kept (grown_below hb none) (by simp)).lookup symKey Tryz.underlying123 (zeroBl w9) (plain_bool (x := false)) (keySym s.1 s.2 h1 h2)
 obtain ⟨x, rfl, hx⟩ := plain_bool_inv hv
 rw [h5 s h1 h2] at hx
 injection hx with hx
 injection hx with hx
 rw [hr, hx]
set_option maxRecDepth 100000 in
theorem NmI.more {w0 : World} {S : Nat → Prop} {kd : Int} {w Y : World} {pre : List (Spot w0 S)} {x : Spot w0 S} {W3 : World} (hsz : NmOk x.tm) (hk : (x.tm.kd == kd) = true) (hn : ((namesF kd (pre.map Spot.tm)).any fun s => eqN s x.tm.nm) = false)
 {sl' : Value} (hb : Below w.heap.size w W3) (hkc : KeepC Y.heap.size (fun k => k = w.heap.size + 1 ∨ k = w.heap.size + 1 + 1) Y W3)
 (hbox : W3.heap[w.heap.size + 1]? = some (.cells #[sl'] 46 (0, 0)))
 (hrow : W3.ownsRow Y.heap.size 23 2 sl' ((namesF kd (pre.map Spot.tm)).length + 1) (flatN (namesF kd (pre.map Spot.tm)) ++ [.string x.tm.nm.1, .string x.tm.nm.2]))
 {D : DataW Unit} (hmap : W3.ownsMap Tryz.prog 23 (plainElem (H := Unit) Tryz.prog 4) (w.heap.size + 1 + 1) (pre.length + 1) (D.put (symL x.tm.nm.1 x.tm.nm.2) (.lit (.bool true)))) (hD : Maps.IsMap D)
 (h5 : ∀ s : Nm, s.1.size ≤ maxLen → s.2.size ≤ maxLen → D.atKey (symL s.1 s.2) (.lit (.bool false)) = .lit (.bool ((namesF kd (pre.map Spot.tm)).any fun x => eqN x s))) : NmI kd w Y (pre ++ [x]) W3 := by
 have e : namesF kd ((pre ++ [x]).map Spot.tm) = namesF kd (pre.map Spot.tm) ++ [x.tm.nm] := by
  rw [List.map_append, List.map_singleton, namesF_snoc]
  unfold addN
  rw [hk, hn]; rfl
 have hf : flatN (namesF kd (pre.map Spot.tm) ++ [x.tm.nm]) = flatN (namesF kd (pre.map Spot.tm)) ++ [.string x.tm.nm.1, .string x.tm.nm.2] := by simp [flatN]
 refine ⟨sl', _, hbox, by rw [e, hf, List.length_append]; exact hrow, by rw [List.length_append]; exact hmap, ?_, fun s h1 h2 => ?_, hb, hkc⟩
 · obtain ⟨es, rfl⟩ := hD
   exact ⟨_, rfl⟩
 · rw [e, List.any_append]
   by_cases hs : x.tm.nm = s
   · subst hs
     rw [Maps.atKey_put_same hD (by unfold symL; trivial), hn]
     have : eqN x.tm.nm x.tm.nm = true := eqN_iff.2 rfl
     simp [this]
   · rw [Maps.atKey_put_other (fun hh => hs (by obtain ⟨a, b⟩ := symL_inj h1 h2 hsz.1 hsz.2 hh; exact Prod.ext a.symm b.symm)), h5 s h1 h2]
     have : eqN x.tm.nm s = false := by
      cases hq : eqN x.tm.nm s with
      | false => rfl
      | true => exact absurd (eqN_iff.1 hq) hs
     simp [this]
set_option maxRecDepth 100000 in
theorem infoN : ∃ i, Tryz.prog.info? 23 = some i ∧ i.zero = some (.agg #[.string ⟨#[]⟩, .string ⟨#[]⟩]) ∧ i.size = 2 ∧ i.bytes = 32 := info_of (P := Tryz.prog) (t := 23) (z := .agg #[.string ⟨#[]⟩, .string ⟨#[]⟩]) (a := 2) (b := 32) (by kernel_rfl)
set_option maxRecDepth 100000 in
theorem NmI.grow {w0 : World} {S : Nat → Prop} {kd : Int} {w Y : World} {pre : List (Spot w0 S)} {x : Spot w0 S} {V w1 w2 w3 : World} {sl v' : Value} {D : DataW Unit} (hw : w.heap.size + 5 ≤ Y.heap.size)
 (h1 : V.heap[w.heap.size + 1]? = some (.cells #[sl] 46 (0, 0)))
 (h2 : V.ownsRow Y.heap.size 23 2 sl (namesF kd (pre.map Spot.tm)).length (flatN (namesF kd (pre.map Spot.tm)))) (h4 : Maps.IsMap D)
 (h5 : ∀ s : Nm, s.1.size ≤ maxLen → s.2.size ≤ maxLen → D.atKey (symL s.1 s.2) (.lit (.bool false)) = .lit (.bool ((namesF kd (pre.map Spot.tm)).any fun x => eqN x s)))
 (h6 : Below w.heap.size w V) (h7 : KeepC Y.heap.size (fun k => k = w.heap.size + 1 ∨ k = w.heap.size + 1 + 1) Y V)
 (hsz : NmOk x.tm) (hk : (x.tm.kd == kd) = true) (hn : ((namesF kd (pre.map Spot.tm)).any fun s => eqN s x.tm.nm) = false)
 (m1 : w1.ownsMap Tryz.prog 23 (plainElem (H := Unit) Tryz.prog 4) (w.heap.size + 1 + 1) (pre.length + 1) (D.put (symL x.tm.nm.1 x.tm.nm.2) (.lit (.bool true)))) (g1 : V.grownBy w1 (some (w.heap.size + 1 + 1)))
 (b2 : Below w1.heap.size w1 w2)
 (r3 : w3.ownsRow Y.heap.size 23 2 v' ((namesF kd (pre.map Spot.tm)).length + 1) (flatN (namesF kd (pre.map Spot.tm)) ++ [.string x.tm.nm.1, .string x.tm.nm.2])) (g3 : w2.grownBy w3 sl.ownBlock) :
 KeepsFrom Y.heap.size V (w3.setCell ⟨w.heap.size + 1, 0, none⟩ v') ∧ KeepC (w.heap.size + 5) (fun k => k = w.heap.size + 1 ∨ k = w.heap.size + 1 + 1) V (w3.setCell ⟨w.heap.size + 1, 0, none⟩ v') ∧ NmI kd w Y (pre ++ [x]) (w3.setCell ⟨w.heap.size + 1, 0, none⟩ v') := by
 have hs7 := h7.size
 have hs1 := g1.size
 have hs2 := b2.size
 have hs3 := g3.size
 have ho := own_lt h2
 have blk : ∀ k, k < V.heap.size → k ≠ w.heap.size + 1 + 1 → sl.ownBlock ≠ some k → w3.heap[k]? = V.heap[k]? := fun k hk h2 h3 =>
  (g3.block k (by omega) (fun e => h3 e.symm)).trans ((b2.block k (by omega)).trans (g1.block k hk (fun e => h2 (by injection e))))
 have hbx : w3.heap[w.heap.size + 1]? = some (.cells #[sl] 46 (0, 0)) := (blk _ (by omega) (by omega) (fun e => by have := (ho _ e).1; omega)).trans h1
 have e4 := setCell_eq_setRow w3 (w.heap.size + 1) 0 _ _ (0, 0) v' hbx
 have hb4 : (w3.setCell ⟨w.heap.size + 1, 0, none⟩ v').heap[w.heap.size + 1]? = some (.cells #[v'] 46 (0, 0)) := by rw [e4]; exact setRow_heap _ _ _ _ _ _ hbx
 have hoth : ∀ k, k ≠ w.heap.size + 1 → (w3.setCell ⟨w.heap.size + 1, 0, none⟩ v').heap[k]? = w3.heap[k]? := fun k hk => by rw [e4]; exact setRow_other w3 _ k _ hk
 have hs4 : (w3.setCell ⟨w.heap.size + 1, 0, none⟩ v').heap.size = w3.heap.size := by rw [e4]; exact size_setRow _ _ _
 have hch : ∀ k, k < V.heap.size → k ≠ w.heap.size + 1 → k ≠ w.heap.size + 1 + 1 → sl.ownBlock ≠ some k → (w3.setCell ⟨w.heap.size + 1, 0, none⟩ v').heap[k]? = V.heap[k]? := fun k hk h1 h2 h3 => (hoth k h1).trans (blk k hk h2 h3)
 have hslc : ∀ k o, sl.ownBlock = some k → V.heap[k]? = some o → ∃ cur, o = .cells cur 23 (0, 0) := fun k o hk hv => by
  rcases h2.2 with ⟨rfl, _⟩ | ⟨g', cap, cur, rfl, _, hh, _⟩
  · simp [Value.ownBlock] at hk
  · have e' : g' = k := by simpa [Value.ownBlock] using hk
    subst e'
    rw [hh] at hv
    injection hv with hv
    exact ⟨cur, hv.symm⟩
 have kc : ∀ B0, w.heap.size + 5 ≤ B0 → B0 ≤ Y.heap.size → KeepC B0 (fun k => k = w.heap.size + 1 ∨ k = w.heap.size + 1 + 1) V (w3.setCell ⟨w.heap.size + 1, 0, none⟩ v') := fun B0 hB hB' => ⟨by omega, fun k o hk hm hc => by
  refine (hch k (lt_row hk) (fun e => hm (.inl e)) (fun e => hm (.inr e)) (fun e => ?_)).trans hk
  rcases hc with hc | hc
  · have := (ho _ e).1; omega
  · obtain ⟨cur, rfl⟩ := hslc k o e hk
    simp [keepO] at hc⟩
 refine ⟨⟨by omega, fun k o hB hk hc => ?_⟩, kc _ (Nat.le_refl _) hw, ?_⟩
 · refine (hch k (lt_row hk) (by omega) (by omega) (fun e => ?_)).trans hk
   obtain ⟨cur, rfl⟩ := hslc k o e hk
   cases hc
 · refine NmI.more hsz hk hn ⟨g3.os.trans (b2.os.trans (g1.os.trans h6.os)), g3.tape.trans (b2.tape.trans (g1.tape.trans h6.tape)), g3.output.trans (b2.output.trans (g1.output.trans h6.output)), by have := h6.size; omega, fun k hk => ?_⟩ (h7.trans (kc _ hw (Nat.le_refl _))) hb4 (own_keep r3 fun g hg => hoth g ?_) ?_ h4 h5
   · exact (hch k (by have := h6.size; omega) (by omega) (by omega) (fun e => by have := (ho _ e).1; omega)).trans (h6.block k hk)
   · have := (own_lt r3 g hg).1; omega
   · have m3 := (m1.kept (grown_below b2 none) (by simp)).kept g3 (fun e => by have := (ho _ e.symm).1; omega)
     refine m3.kept (row := some (w.heap.size + 1)) ⟨rfl, rfl, rfl, by omega, fun k _ hk => hoth k (fun e => hk (by rw [e]))⟩ (fun e => by injection e with e; omega)
theorem flatN_get : ∀ (l : List Nm) (i : Nat) (hi : i < l.length), (flatN l)[i * 2]? = some (.string l[i].1) ∧ (flatN l)[i * 2 + 1]? = some (.string l[i].2)
 | s :: l, 0, _ => ⟨rfl, rfl⟩
 | s :: l, i + 1, hi => by
  have h := flatN_get l i (by simpa using hi)
  have e : flatN (s :: l) = .string s.1 :: .string s.2 :: flatN l := rfl
  rw [e, show (i + 1) * 2 = i * 2 + 1 + 1 from by omega]
  exact h
theorem nsV_own {W : World} {base : Nat} {l : List Nm} {sl : Value} (h : W.ownsRow base 23 2 sl l.length (flatN l)) : NsV W (fun b => base ≤ b ∧ b < W.heap.size ∧ ∃ cur, W.heap[b]? = some (.cells cur 23 (0, 0))) l sl := by
 rcases h.2 with ⟨rfl, e⟩ | ⟨g, cap, cur, rfl, hb, hh, hn, _, hcs, hcur⟩
 · exact ⟨none, 0, by rw [e], by omega, fun h0 => by omega⟩
 · refine ⟨_, cap, rfl, hn, fun _ => ⟨g, 0, rfl, ⟨⟨hb, lt_row hh, cur, hh⟩, _, _, hh⟩, fun i hi => ?_⟩⟩
   obtain ⟨f1, f2⟩ := flatN_get l i hi
   rw [← hcur, List.getElem?_take] at f1 f2
   rw [Nat.zero_add, cell_of_row _ _ _ _ _ _ hh, cell_of_row _ _ _ _ _ _ hh]
   rw [if_pos (by omega)] at f1 f2
   exact ⟨by simpa using f1, by simpa using f2⟩
def LBN (s : Nm) : Lv := fun v lo hi w => v = .slice (some ⟨lo, 0, none⟩) 1 1 ∧ w.heap[lo]? = some (.cells #[.string s.1, .string s.2] 23 (0, 0)) ∧ lo < hi
theorem mLBN (s : Nm) : Mon (LBN s) := fun _ _ _ _ _ ⟨h1, h2, h3⟩ hm hb => ⟨h1, (hb.block _ (by omega)).trans h2, h3⟩
end Go.Proofs.YtinjhnnpbejccaaGreatDoor
