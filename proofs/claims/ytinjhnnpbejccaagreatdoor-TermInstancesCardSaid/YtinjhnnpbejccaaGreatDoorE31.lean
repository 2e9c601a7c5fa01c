/- The walk of TermComposes. -/
import Derived.Test.YtinjhnnpbejccaaGreatDoorE19
import Derived.Test.YtinjhnnpbejccaaGreatDoorE30
import Derived.Test.YtinjhnnpbejccaaGreatDoorE29
import Derived.Test.YtinjhnnpbejccaaGreatDoorE24
import Derived.Laws.EntriesVeiled
import Derived.Test.YtinjhnnpbejccaaGreatDoorE21
import Derived.Test.YtinjhnnpbejccaaGreatDoorE25
import Derived.Test.YtinjhnnpbejccaaGreatDoorE28
import Derived.Deep.Upon
import Derived.Test.YtinjhnnpbejccaaGreatDoorE20
import Derived.BigQuiet
namespace Go.Proofs.YtinjhnnpbejccaaGreatDoor
open Go Go.RowKit
set_option linter.unusedVariables false
set_option maxHeartbeats 32000000
set_option maxRecDepth 100000




def NmOkq (t : Tm) : Prop := (t.nm.1.size ≤ maxLen ∧ t.nm.2.size ≤ maxLen) ∧ t.bd 10
abbrev Spotq (w0 : World) (S : Nat → Prop) := { x : Nat × Nat × Tm // ∃ cs, TmP w0 S x.2.2 x.1 x.2.1 cs ∧ NmOkq x.2.2 }
def Spotq.tm {w0 : World} {S : Nat → Prop} (x : Spotq w0 S) : Tm := x.1.2.2




section
variable {Q : Exit → Act → World → Prop}
end




abbrev Lm := Nm × List Nm × Tm
def LmC (w : World) (S : Nat → Prop) (f : Lm) (cs : List Value) : Prop := ∃ pv bc, cs = Value.string f.1.1 :: Value.string f.1.2 :: pv :: bc ∧ NsV w S f.2.1 pv ∧ TmAt w S f.2.2 bc
theorem LmC.keep {w w' : World} {S S' : Nat → Prop} (hS : ∀ b, S b → S' b) (hk : ∀ b, S b → w'.heap[b]? = w.heap[b]?) {f : Lm} {cs : List Value} (h : LmC w S f cs) : LmC w' S' f cs := by
 obtain ⟨pv, bc, e, h1, h2⟩ := h
 exact ⟨pv, bc, e, h1.keep hS hk, TmAt.keep hS hk _ _ h2⟩
theorem LmC.length {w : World} {S : Nat → Prop} {f : Lm} {cs : List Value} (h : LmC w S f cs) : cs.length = 14 := by
 obtain ⟨pv, bc, rfl, h1, h2⟩ := h
 simp [h2.length]
theorem LmC.one {w : World} {S : Nat → Prop} {f : Lm} {cs : List Value} (h : LmC w S f cs) : ∀ u ∈ cs, u.oneCell' = true := by
 obtain ⟨pv, bc, rfl, ⟨A, c, rfl, _⟩, h2⟩ := h
 have h3 := h2.one
 intro u hu
 simp only [List.mem_cons] at hu
 rcases hu with rfl | rfl | rfl | hu
 · rfl
 · rfl
 · rfl
 · exact h3 u hu
theorem infoF : ∃ i, Tryz.prog.info? 69 = some i ∧ i.zero = some (.agg #[.string ⟨#[]⟩, .string ⟨#[]⟩, .slice none 0 0, .int .i64 0, .string ⟨#[]⟩, .string ⟨#[]⟩, .int .i64 0, .string ⟨#[]⟩, .string ⟨#[]⟩, .string ⟨#[]⟩, .string ⟨#[]⟩, .string ⟨#[]⟩, .slice none 0 0, .slice none 0 0]) ∧ i.size = 14 ∧ i.bytes = 232 := info_of (P := Tryz.prog) (t := 69) (z := .agg #[.string ⟨#[]⟩, .string ⟨#[]⟩, .slice none 0 0, .int .i64 0, .string ⟨#[]⟩, .string ⟨#[]⟩, .int .i64 0, .string ⟨#[]⟩, .string ⟨#[]⟩, .string ⟨#[]⟩, .string ⟨#[]⟩, .string ⟨#[]⟩, .slice none 0 0, .slice none 0 0]) (a := 14) (b := 232) (by kernel_rfl)
structure MkF (S0 : Nat → Prop) (W wr : World) (l : List Lm) (v : Value) (xs : List (List Value)) : Prop where
 len : xs.length = l.length
 own : wr.ownsRow W.heap.size 69 14 v l.length xs.flatten
 lms : ∀ i (hi : i < l.length) (hx : i < xs.length), LmC wr (fun b => (S0 b ∨ W.heap.size ≤ b) ∧ b < wr.heap.size ∧ v.ownBlock ≠ some b) l[i] xs[i]
 bel : Below W.heap.size W wr
theorem MkF.start (S0 : Nat → Prop) (W : World) : MkF S0 W W [] (.slice none 0 0) [] :=
 ⟨rfl, ⟨rfl, .inl ⟨rfl, rfl⟩⟩, fun i hi => by simp at hi, Below.refl _ _⟩
theorem MkF.below {S0 : Nat → Prop} {W wo w3 : World} {l : List Lm} {v : Value} {xs : List (List Value)} (h : MkF S0 W wo l v xs) (hb : Below wo.heap.size wo w3) : MkF S0 W w3 l v xs :=
 ⟨h.len, own_keep h.own fun g hg => hb.block g (own_lt h.own g hg).2, fun i hi hx => (h.lms i hi hx).keep (fun b hb' => ⟨hb'.1, Nat.lt_of_lt_of_le hb'.2.1 hb.size, hb'.2.2⟩) (fun b hb' => hb.block b hb'.2.1), h.bel.trans (hb.mono h.bel.size)⟩
theorem MkF.step2 {S0 : Nat → Prop} {W wo w3 w4 : World} {l : List Lm} {v v' : Value} {xs : List (List Value)} (h : MkF S0 W wo l v xs) (hS : In S0 W) (hb : Below wo.heap.size wo w3) {f : Lm} {cs : List Value}
 (hp : LmC w3 (Upto wo w3 S0) f cs) (h4 : w4.ownsRow W.heap.size 69 14 v' (l.length + 1) (xs.flatten ++ cs)) (hg : w3.grownBy w4 v.ownBlock) (hat : v'.ownBlock = v.ownBlock ∨ v'.ownBlock = some w3.heap.size) :
 MkF S0 W w4 (l ++ [f]) v' (xs ++ [cs]) := by
 have hown := own_lt h.own
 have h34 := hg.size
 have hs3 := hb.size
 have hsW := h.bel.size
 have blk : ∀ b, b < w3.heap.size → v.ownBlock ≠ some b → w4.heap[b]? = w3.heap[b]? := fun b hb' hne => hg.block b hb' (fun e => hne e.symm)
 have hne' : ∀ b, b < w3.heap.size → v.ownBlock ≠ some b → v'.ownBlock ≠ some b := fun b hb' hne e => by
  rcases hat with h0 | h0
  · exact hne (h0.symm.trans e)
  · rw [h0] at e
    have : w3.heap.size = b := by injection e
    omega
 refine ⟨by simp [h.len], by rw [List.flatten_append]; simpa using h4, fun i hi hx => ?_, ?_⟩
 · by_cases hil : i < l.length
   · have hix : i < xs.length := by rw [h.len]; exact hil
     rw [List.getElem_append_left hil, List.getElem_append_left hix]
     refine (h.lms i hil hix).keep (fun b hb' => ⟨hb'.1, by omega, hne' b (by omega) hb'.2.2⟩) (fun b hb' => ?_)
     rw [blk b (by omega) hb'.2.2, hb.block b hb'.2.1]
   · have hie : i = l.length := by simp at hi; omega
     subst hie
     have e2 : (xs ++ [cs])[l.length] = cs := by simp [← h.len]
     have e1 : (l ++ [f])[l.length] = f := by simp
     rw [e1, e2]
     have hn : ∀ b, Upto wo w3 S0 b → (S0 b ∨ W.heap.size ≤ b) ∧ b < w3.heap.size ∧ v.ownBlock ≠ some b := fun b hb' => by
      rcases hb' with h0 | h0
      · have := hS b h0
        exact ⟨.inl h0, by omega, fun e => by have := (hown b e).1; omega⟩
      · exact ⟨.inr (by omega), h0.2, fun e => by have := (hown b e).2; omega⟩
     refine hp.keep (fun b hb' => ?_) (fun b hb' => ?_)
     · obtain ⟨h0, h1, h2⟩ := hn b hb'
       exact ⟨h0, by omega, hne' b h1 h2⟩
     · obtain ⟨h0, h1, h2⟩ := hn b hb'
       exact blk b h1 h2
 · exact (h.bel.trans (hb.mono hsW)).grown hg (by have := h.bel.size; omega) (fun k hk => by have := (hown k hk).1; omega)
theorem flat14 : ∀ (xs : List (List Value)) (i j : Nat) (u : Value) (hi : i < xs.length), (∀ x ∈ xs, x.length = 14) → xs[i][j]? = some u → xs.flatten[i * 14 + j]? = some u
 | x :: xs, 0, j, u, _, hl, h => by
  rw [Nat.zero_mul, Nat.zero_add, List.flatten_cons]
  have hj : j < x.length := by
   rcases Nat.lt_or_ge j x.length with h1 | h1
   · exact h1
   · rw [List.getElem_cons_zero, List.getElem?_eq_none h1] at h; cases h
  rw [List.getElem?_append_left hj]
  exact h
 | x :: xs, i + 1, j, u, hi, hl, h => by
  have hx := hl x (by simp)
  rw [List.flatten_cons, List.getElem?_append_right (by rw [hx]; omega), hx, show (i + 1) * 14 + j - 14 = i * 14 + j from by omega]
  exact flat14 xs i j u (by simpa using hi) (fun y hy => hl y (by simp [hy])) (by simpa using h)
def LmsV (w : World) (S : Nat → Prop) (l : List Lm) (v : Value) : Prop := ∃ A c, v = .slice A l.length c ∧ l.length ≤ c ∧
 (0 < l.length → ∃ b o, A = some ⟨b, o, none⟩ ∧ (S b ∧ Plain w b) ∧ ∀ i (hi : i < l.length), ∃ cs, LmC w S l[i] cs ∧ ∀ j u, cs[j]? = some u → w.cell? ⟨b, o + i * 14 + j, none⟩ = some u)
theorem LmsV.nil (w : World) (S : Nat → Prop) : LmsV w S [] (.slice none 0 0) := ⟨none, 0, rfl, Nat.le_refl _, fun h => by simp at h⟩
theorem LmsV.keep {w w' : World} {S S' : Nat → Prop} (hS : ∀ b, S b → S' b) (hk : ∀ b, S b → w'.heap[b]? = w.heap[b]?) {l : List Lm} {v : Value} (h : LmsV w S l v) : LmsV w' S' l v := by
 obtain ⟨A, c, h1, h2, h3⟩ := h
 refine ⟨A, c, h1, h2, fun hl => ?_⟩
 obtain ⟨b, o, e, hb, hr⟩ := h3 hl
 refine ⟨b, o, e, ⟨hS b hb.1, hb.2.keep (hk b hb.1)⟩, fun i hi => ?_⟩
 obtain ⟨cs, k1, k2⟩ := hr i hi
 exact ⟨cs, k1.keep hS hk, fun j u hj => (World.cell?_of_block (a := ⟨b, o + i * 14 + j, none⟩) (hk b hb.1)).trans (k2 j u hj)⟩
theorem LmsV.below {w w' : World} {S : Nat → Prop} {B : Nat} {l : List Lm} {v : Value} (h : LmsV w S l v) (hS : ∀ b, S b → b < B) (hb : Below B w w') : LmsV w' S l v := h.keep (fun _ h => h) fun q hq => hb.block q (hS q hq)
theorem LmsV.more {w : World} {S S' : Nat → Prop} {l : List Lm} {v : Value} (h : LmsV w S l v) (hS : ∀ b, S b → S' b) : LmsV w S' l v := h.keep hS fun _ _ => rfl
theorem MkF.slice {S0 : Nat → Prop} {W wr : World} {l : List Lm} {v : Value} {xs : List (List Value)} (h : MkF S0 W wr l v xs) : LmsV wr (Upto W wr S0) l v := by
 have ho := own_lt h.own
 have h14 : ∀ x ∈ xs, x.length = 14 := fun x hx => by
  obtain ⟨i, hi, rfl⟩ := List.getElem_of_mem hx
  exact (h.lms i (by rw [← h.len]; exact hi) hi).length
 rcases h.own.2 with ⟨rfl, e⟩ | ⟨g, cap, cur, rfl, hb, hh, hn, _, hcs, hcur⟩
 · exact ⟨none, 0, by rw [e], by omega, fun h0 => by omega⟩
 · refine ⟨_, cap, rfl, hn, fun _ => ⟨g, 0, rfl, ⟨.inr (ho g rfl), _, _, hh⟩, fun i hi => ?_⟩⟩
   have hix : i < xs.length := by rw [h.len]; exact hi
   refine ⟨xs[i], (h.lms i hi hix).keep (fun b hb' => ?_) (fun _ _ => rfl), fun j u hj => ?_⟩
   · rcases hb'.1 with h0 | h0
     · exact .inl h0
     · exact .inr ⟨h0, hb'.2.1⟩
   · have hf := flat14 xs i j u hix h14 hj
     rw [Nat.zero_add, cell_of_row _ _ _ _ _ _ hh]
     rw [← hcur] at hf
     rw [List.getElem?_take] at hf
     split at hf
     · simpa using hf
     · cases hf
def findF : List Lm → Nm → Option Lm
 | [], _ => none
 | a :: r, n => if eqN a.1 n = true then some a else findF r n
theorem findF_drop {l : List Lm} {i : Nat} (hi : i < l.length) (n : Nm) : findF (l.drop i) n = if eqN l[i].1 n = true then some l[i] else findF (l.drop (i + 1)) n := by rw [List.drop_eq_getElem_cons hi]; rfl
def replF (l : List Lm) (s : Nm) (n : Nat) : Option Lm := match findF l s with
 | some f => if f.2.1.length = n then some f else none
 | none => none
def bindF : List Nm → List Tm → List (Nm × Tm)
 | p :: ps, t :: ts => (p, t) :: bindF ps ts
 | _, _ => []
theorem bindF_len : ∀ (ps : List Nm) (ts : List Tm), ps.length = ts.length → (bindF ps ts).length = ps.length
 | [], _, _ => rfl
 | p :: ps, [], h => by simp at h
 | p :: ps, t :: ts, h => by
  show (bindF ps ts).length + 1 = ps.length + 1
  rw [bindF_len ps ts (by simpa using h)]
theorem bindF_get : ∀ (ps : List Nm) (ts : List Tm) (i : Nat) (hp : i < ps.length) (ht : i < ts.length) (hb : i < (bindF ps ts).length), (bindF ps ts)[i] = (ps[i], ts[i])
 | p :: ps, t :: ts, 0, _, _, _ => rfl
 | p :: ps, t :: ts, i + 1, hp, ht, hb => by
  have := bindF_get ps ts i (by simpa using hp) (by simpa using ht) (by simpa [bindF] using hb)
  simpa [bindF] using this
mutual
def instT (l : List Lm) : Tm → Tm
 | .var s => .var s
 | .con o => .con o
 | .app s ts => match replF l s ts.length with
  | some f => subT (bindF f.2.1 (instTs l ts)) f.2.2
  | none => .app s (instTs l ts)
def instTs (l : List Lm) : List Tm → List Tm
 | [] => []
 | t :: ts => instT l t :: instTs l ts
end
theorem instTs_map (l : List Lm) : ∀ ts, instTs l ts = ts.map (instT l)
 | [] => by unfold instTs; rfl
 | t :: ts => by unfold instTs; rw [instTs_map l ts]; rfl
mutual
def chI (l : List Lm) : Tm → Bool
 | .var _ => false
 | .con _ => false
 | .app s ts => (replF l s ts.length).isSome || chIs l ts
def chIs (l : List Lm) : List Tm → Bool
 | [] => false
 | t :: ts => chI l t || chIs l ts
end
theorem chIs_any (l : List Lm) : ∀ ts, chIs l ts = ts.any (chI l)
 | [] => by unfold chIs; rfl
 | t :: ts => by unfold chIs; rw [chIs_any l ts]; rfl
mutual
theorem inst_same (l : List Lm) : ∀ t, chI l t = false → instT l t = t
 | .var s, _ => by unfold instT; rfl
 | .con o, _ => by unfold instT; rfl
 | .app s ts, h => by
  unfold chI at h
  rw [Bool.or_eq_false_iff] at h
  have h1 : replF l s ts.length = none := by
   cases h0 : replF l s ts.length with
   | none => rfl
   | some f => rw [h0] at h; exact absurd h.1 (by simp)
  unfold instT
  rw [h1, insts_same l ts h.2]
theorem insts_same (l : List Lm) : ∀ ts, chIs l ts = false → instTs l ts = ts
 | [], _ => by unfold instTs; rfl
 | t :: ts, h => by
  unfold chIs at h
  rw [Bool.or_eq_false_iff] at h
  unfold instTs
  rw [inst_same l t h.1, insts_same l ts h.2]
end
theorem inst_nil : ∀ t, instT [] t = t := by
 intro t
 have h : ∀ t, chI [] t = false := by
  intro t
  induction t using Tm.ind with
  | hv s => unfold chI; rfl
  | hc o => unfold chI; rfl
  | ha s l ih =>
   unfold chI
   rw [chIs_any]
   have : l.any (chI []) = false := by
    rw [List.any_eq_false]
    intro x hx
    rw [ih x hx]; simp
   rw [this]; rfl
 exact inst_same [] t (h t)
def putP : Tm → List Int → Tm → Tm
 | _, [], n => n
 | t, i :: p, n => .app t.nm (t.args.set i.toNat (putP (t.args.getD i.toNat t) p n))
theorem repl_out : ∀ (cs cur : List Value) (k j : Nat), (j < k ∨ k + cs.length ≤ j) → (repl cur k cs)[j]? = cur[j]?
 | [], _, _, _, _ => rfl
 | v :: r, cur, k, j, h => by
  unfold repl
  simp only [List.length_cons] at h
  rw [repl_out r (cur.set k v) (k + 1) j (by omega), List.getElem?_set_ne (by omega)]
theorem repl_in : ∀ (cs cur : List Value) (k j : Nat) (u : Value), k + cs.length ≤ cur.length → cs[j]? = some u → (repl cur k cs)[k + j]? = some u
 | [], _, _, j, _, _, h => by simp at h
 | v :: r, cur, k, 0, u, hk, h => by
  unfold repl
  simp only [List.length_cons] at hk
  rw [repl_out r _ _ _ (.inl (by omega)), Nat.add_zero, List.getElem?_set_self (by omega)]
  simpa using h
 | v :: r, cur, k, j + 1, u, hk, h => by
  unfold repl
  simp only [List.length_cons] at hk
  rw [show k + (j + 1) = k + 1 + j from by omega]
  exact repl_in r (cur.set k v) (k + 1) j u (by rw [List.length_set]; omega) (by simpa using h)
def RetAs (w : World) (S : Nat → Prop) (s : List (Nm × Tm)) (e : Ending) (w' : World) : Prop := ∃ v, e = .returned v ∧ AsV w' (Upto w w' S) s v ∧ Below w.heap.size w w'
def LAB (cs : Array Value) : Lv := fun v lo hi w => v = .slice (some ⟨lo, 0, none⟩) 1 1 ∧ w.heap[lo]? = some (.cells cs 54 (0, 0)) ∧ lo < hi
theorem mLAB (cs : Array Value) : Mon (LAB cs) := fun _ _ _ _ _ ⟨h1, h2, h3⟩ hm hb => ⟨h1, (hb.block _ (by omega)).trans h2, h3⟩
theorem bindF_take {ps : List Nm} {ts : List Tm} {i : Nat} (hl : ps.length = ts.length) (hi : i < ps.length) : (bindF ps ts).take (i + 1) = (bindF ps ts).take i ++ [(ps[i], ts[i]'(by omega))] := by
 have hb : i < (bindF ps ts).length := by rw [bindF_len ps ts hl]; exact hi
 rw [List.take_succ_eq_append_getElem hb, bindF_get ps ts i hi (by omega) hb]
theorem bindR (ps : List Nm) (ts : List Tm) (pv : Value) (A : Option Addr) (c : Nat) (w : World) (S : Nat → Prop) (hS : In S w) (hp : NsV w S ps pv) (ha : ArgsAt w S ts A c) (hlen : ps.length = ts.length) (hl : ps.length ≤ 10000) :
 Calls Tryz.prog 83 #[pv, .slice A ts.length c] w (RetAs w S (bindF ps ts)) := by
 have hp' := hp
 obtain ⟨Ap, cp, rfl, hpc, hpr⟩ := hp'
 obtain ⟨L, hL⟩ : ∃ L, ps.length = L := ⟨_, rfl⟩
 have hLt : ts.length = L := by omega
 have hc1 := ha.1
 rw [hL] at hpc hl ⊢
 rw [hLt] at hc1 ⊢
 have HL := hI hL
 have HLT := hI hLt
 have HLEN := hI hlen
 have HPR := hI hpr
 have HAR := hI ha
 have HS := hI hS
 have h0 : Hid (∃ xs, MkA S w w ((bindF ps ts).take 0) (.slice none 0 0) xs) := ⟨[], MkA.start S w⟩
 obtain ⟨i0, hi0, hz0, hz1, hz2⟩ := infoA
 have HI0 := hI hi0
 have HZ0 := hI hz0
 have HZ1 := hI hz1
 have HZ2 := hI hz2
 clear hi0 hz0 hz1 hz2 hp hpr ha hS hL hLt hlen
 go_enter Tryz.func83, Tryz.ntmps83
 go_wp2_with fail
 go_loopw [5, 6] (fun u v wr => ∃ (i : Nat) (sl : Value), sl = u ∧ i ≤ L ∧ v = .int .i64 (i : Int) ∧ Hid (∃ xs, MkA S w wr ((bindF ps ts).take i) sl xs)) (fun _ v _ => L - (intOf v).toNat)
 case atStart => exact ⟨0, _, rfl, Nat.zero_le _, rfl, h0⟩
 case round =>
  clear h0
  obtain ⟨i, sl, rfl, hiL, rfl, hE⟩ := hrel
  obtain ⟨wo, rfl⟩ : ∃ wo : World, wo = wr := ⟨_, rfl⟩
  obtain ⟨xs, hM⟩ := hE.out
  have hbel := hM.bel
  by_cases hlt : i < L
  · have HLN : Hid (((bindF ps ts).take i).length = i) := (show _ = _ by rw [List.length_take, bindF_len ps ts HLEN.out, HL.out]; omega)
    have HMK := hI hM
    have hws := hbel.size
    obtain ⟨bp, op, rfl, hbp, hcn⟩ := HPR.out (by have := HL.out; omega)
    have hip : i < ps.length := by rw [HL.out]; exact hlt
    have hit : i < ts.length := by rw [HLT.out]; exact hlt
    obtain ⟨ba, oa, cx, rfl, hP⟩ := HAR.out.arg hit
    have hP' := hP.below HS.out hbel
    obtain ⟨n0, n1⟩ := hcn i hip
    have hbp1 : bp < w.heap.size := HS.out bp hbp.1
    have hba1 : ba < w.heap.size := HS.out ba hP.1.1
    have X0 := hI ((hbel.cell (p := ⟨bp, op + i * 2, none⟩) hbp1).trans n0)
    have X1 := hI ((hbel.cell (p := ⟨bp, op + i * 2 + 1, none⟩) hbp1).trans n1)
    have HBP : Hid (bp < wo.heap.size) := Nat.lt_of_lt_of_le hbp1 hbel.size
    have HBA : Hid (ba < wo.heap.size) := Nat.lt_of_lt_of_le hba1 hbel.size
    have HTK := hI (bindF_take (ts := ts) HLEN.out hip)
    generalize ps[i] = x at *
    generalize ts[i] = t at *
    obtain ⟨z0, z1, z2, z3, z4, z5, z6, A5, c5, rfl, hva, har2, k0, k1, k2, k3, k4, k5, k6, k7, k8, k9, k10⟩ := hP'.cells
    have HX := hI hP'.2.1
    have K0 := hI k0
    have K1 := hI k1
    have K2 := hI k2
    have K3 := hI k3
    have K4 := hI k4
    have K5 := hI k5
    have K6 := hI k6
    have K7 := hI k7
    have K8 := hI k8
    have K9 := hI k9
    have K10 := hI k10
    clear hE hM hbel hcn hP hP' n0 n1 hbp hbp1 hba1 hva har2 k0 k1 k2 k3 k4 k5 k6 k7 k8 k9 k10 hip hit
    go_wp2_with fail
    refine wp_region_grow (l := _) 11 (by kernel_rfl) (by kernel_rfl) (fun i => [19, 20, 21, 22, 23, 24, 25, 26, 27, 28, 29].getD i 0) (LR [LV (sl), LV (.slice (some ⟨bp, op, none⟩) L cp), LV (.int .i64 (i : Int)), LV (.pointer (some ⟨bp, op + i * 2, none⟩)), LV (.agg #[.string x.1, .string x.2]), LV (.slice (some ⟨ba, oa, none⟩) L c), LV (.int .i64 (i : Int)), LV (.pointer (some ⟨ba, oa + i * 11, none⟩)), LV (.agg #[.int .i64 t.kd, .string t.nm.1, .string t.nm.2, z0, z1, z2, z3, z4, z5, z6, .slice A5 t.args.length c5]), LV (.agg #[.string x.1, .string x.2, .int .i64 t.kd, .string t.nm.1, .string t.nm.2, z0, z1, z2, z3, z4, z5, z6, .slice A5 t.args.length c5]), LAB #[.string x.1, .string x.2, .int .i64 t.kd, .string t.nm.1, .string t.nm.2, z0, z1, z2, z3, z4, z5, z6, .slice A5 t.args.length c5]]) (LR_mono ⟨mLV _, mLV _, mLV _, mLV _, mLV _, mLV _, mLV _, mLV _, mLV _, mLV _, mLAB _, trivial⟩) (by
     intro i j hi hj h
     exact inj_getD [19, 20, 21, 22, 23, 24, 25, 26, 27, 28, 29] (by decide) i j hi hj h) (by
     intro i hi
     exact lt_getD 32 [19, 20, 21, 22, 23, 24, 25, 26, 27, 28, 29] (by decide) i hi) ?step ?done
    case step =>
     intro ii hii a w9 v lo hi' hoth hb hw
     have sl5 : a.tmps[5]? = some (sl) := (hoth 5 (fun j hj => ne_getD 5 _ (by decide) j hj)).trans rfl
     have sl0 : a.tmps[0]? = some (.slice (some ⟨bp, op, none⟩) L cp) := (hoth 0 (fun j hj => ne_getD 0 _ (by decide) j hj)).trans rfl
     have sl1 : a.tmps[1]? = some (.slice (some ⟨ba, oa, none⟩) L c) := (hoth 1 (fun j hj => ne_getD 1 _ (by decide) j hj)).trans rfl
     have sl6 : a.tmps[6]? = some (.int .i64 (i : Int)) := (hoth 6 (fun j hj => ne_getD 6 _ (by decide) j hj)).trans rfl
     match ii, hii with
     | 0, _ =>
      exact gw_move rfl (wanted_plain rfl) 5 _ rfl sl5 ⟨_, rfl, Below.refl _ _, rfl⟩
     | 1, _ =>
      exact gw_move rfl (wanted_plain rfl) 0 _ rfl sl0 ⟨_, rfl, Below.refl _ _, rfl⟩
     | 2, _ =>
      exact gw_move rfl (wanted_plain rfl) 6 _ rfl sl6 ⟨_, rfl, Below.refl _ _, rfl⟩
     | 3, _ =>
      obtain ⟨s0, r0, _⟩ := hw 1 (by omega) (by kernel_rfl)
      have e0 : v 1 = .slice (some ⟨bp, op, none⟩) L cp := r0
      rw [e0] at s0
      replace s0 : a.tmps[20]? = some (.slice (some ⟨bp, op, none⟩) L cp) := s0
      obtain ⟨s1, r1, _⟩ := hw 2 (by omega) (by kernel_rfl)
      have e1 : v 2 = .int .i64 (i : Int) := r1
      rw [e1] at s1
      replace s1 : a.tmps[21]? = some (.int .i64 (i : Int)) := s1
      refine wpOp_step rfl fun K' hK' => ?_
      rw [if_pos (wanted_plain rfl)]
      unfold Oper.wp
      simp only [execOp]
      go_simp
      exact hK' _ _ ⟨_, rfl, Below.refl _ _, rfl⟩
     | 4, _ =>
      obtain ⟨s0, r0, _⟩ := hw 3 (by omega) (by kernel_rfl)
      have e0 : v 3 = .pointer (some ⟨bp, op + i * 2, none⟩) := r0
      rw [e0] at s0
      replace s0 : a.tmps[22]? = some (.pointer (some ⟨bp, op + i * 2, none⟩)) := s0
      have cn0 := (hb.cell (p := ⟨bp, op + i * 2, none⟩) HBP.out).trans X0.out
      have cn1 := (hb.cell (p := ⟨bp, op + i * 2 + 1, none⟩) HBP.out).trans X1.out
      refine wpOp_step rfl fun K' hK' => ?_
      rw [if_pos (wanted_plain rfl)]
      unfold Oper.wp
      simp only [execOp]
      go_simp
      exact hK' _ _ ⟨_, rfl, Below.refl _ _, rfl⟩
     | 5, _ =>
      exact gw_move rfl (wanted_plain rfl) 1 _ rfl sl1 ⟨_, rfl, Below.refl _ _, rfl⟩
     | 6, _ =>
      exact gw_move rfl (wanted_plain rfl) 6 _ rfl sl6 ⟨_, rfl, Below.refl _ _, rfl⟩
     | 7, _ =>
      obtain ⟨s0, r0, _⟩ := hw 5 (by omega) (by kernel_rfl)
      have e0 : v 5 = .slice (some ⟨ba, oa, none⟩) L c := r0
      rw [e0] at s0
      replace s0 : a.tmps[24]? = some (.slice (some ⟨ba, oa, none⟩) L c) := s0
      obtain ⟨s1, r1, _⟩ := hw 6 (by omega) (by kernel_rfl)
      have e1 : v 6 = .int .i64 (i : Int) := r1
      rw [e1] at s1
      replace s1 : a.tmps[25]? = some (.int .i64 (i : Int)) := s1
      refine wpOp_step rfl fun K' hK' => ?_
      rw [if_pos (wanted_plain rfl)]
      unfold Oper.wp
      simp only [execOp]
      go_simp
      exact hK' _ _ ⟨_, rfl, Below.refl _ _, rfl⟩
     | 8, _ =>
      obtain ⟨s0, r0, _⟩ := hw 7 (by omega) (by kernel_rfl)
      have e0 : v 7 = .pointer (some ⟨ba, oa + i * 11, none⟩) := r0
      rw [e0] at s0
      replace s0 : a.tmps[26]? = some (.pointer (some ⟨ba, oa + i * 11, none⟩)) := s0
      have ck0 := (hb.cell (p := ⟨ba, oa + i * 11, none⟩) HBA.out).trans K0.out
      have ck1 := (hb.cell (p := ⟨ba, oa + i * 11 + 1, none⟩) HBA.out).trans K1.out
      have ck2 := (hb.cell (p := ⟨ba, oa + i * 11 + 2, none⟩) HBA.out).trans K2.out
      have ck3 := (hb.cell (p := ⟨ba, oa + i * 11 + 3, none⟩) HBA.out).trans K3.out
      have ck4 := (hb.cell (p := ⟨ba, oa + i * 11 + 4, none⟩) HBA.out).trans K4.out
      have ck5 := (hb.cell (p := ⟨ba, oa + i * 11 + 5, none⟩) HBA.out).trans K5.out
      have ck6 := (hb.cell (p := ⟨ba, oa + i * 11 + 6, none⟩) HBA.out).trans K6.out
      have ck7 := (hb.cell (p := ⟨ba, oa + i * 11 + 7, none⟩) HBA.out).trans K7.out
      have ck8 := (hb.cell (p := ⟨ba, oa + i * 11 + 8, none⟩) HBA.out).trans K8.out
      have ck9 := (hb.cell (p := ⟨ba, oa + i * 11 + 9, none⟩) HBA.out).trans K9.out
      have ck10 := (hb.cell (p := ⟨ba, oa + i * 11 + 10, none⟩) HBA.out).trans K10.out
      refine wpOp_step rfl fun K' hK' => ?_
      rw [if_pos (wanted_plain rfl)]
      unfold Oper.wp
      simp only [execOp]
      go_simp
      exact hK' _ _ ⟨_, rfl, Below.refl _ _, rfl⟩
     | 9, _ =>
      obtain ⟨s0, r0, _⟩ := hw 4 (by omega) (by kernel_rfl)
      have e0 : v 4 = .agg #[.string x.1, .string x.2] := r0
      rw [e0] at s0
      replace s0 : a.tmps[23]? = some (.agg #[.string x.1, .string x.2]) := s0
      obtain ⟨s1, r1, _⟩ := hw 8 (by omega) (by kernel_rfl)
      have e1 : v 8 = .agg #[.int .i64 t.kd, .string t.nm.1, .string t.nm.2, z0, z1, z2, z3, z4, z5, z6, .slice A5 t.args.length c5] := r1
      rw [e1] at s1
      replace s1 : a.tmps[27]? = some (.agg #[.int .i64 t.kd, .string t.nm.1, .string t.nm.2, z0, z1, z2, z3, z4, z5, z6, .slice A5 t.args.length c5]) := s1
      refine wpOp_step rfl fun K' hK' => ?_
      rw [if_pos (wanted_plain rfl)]
      unfold Oper.wp
      simp only [execOp]
      go_simp
      exact hK' _ _ ⟨_, rfl, Below.refl _ _, rfl⟩
     | 10, _ =>
      obtain ⟨s0, r0, _⟩ := hw 9 (by omega) (by kernel_rfl)
      have e0 : v 9 = .agg #[.string x.1, .string x.2, .int .i64 t.kd, .string t.nm.1, .string t.nm.2, z0, z1, z2, z3, z4, z5, z6, .slice A5 t.args.length c5] := r0
      rw [e0] at s0
      replace s0 : a.tmps[28]? = some (.agg #[.string x.1, .string x.2, .int .i64 t.kd, .string t.nm.1, .string t.nm.2, z0, z1, z2, z3, z4, z5, z6, .slice A5 t.args.length c5]) := s0
      refine wpOp_step rfl fun K' hK' => ?_
      rw [if_pos (wanted_plain rfl)]
      unfold Oper.wp
      simp only [execOp]
      go_simp
      exact hK' _ _ ⟨_, rfl, below_alT _ _, rfl, heap_alloc_new _ _, by simp⟩
    case done =>
     intro a w9 v lo hi' hdef hsz hoth hb hj hap
     obtain ⟨_, hv0, _, _⟩ := hj 0 (by omega)
     obtain ⟨_, ⟨hv10, hrow, hlt10⟩, hlo10, hhi10⟩ := hj 10 (by omega)
     have ha := eq_puts hdef hsz hoth (fun i hi => (hj i hi).1)
     subst ha
     clear hj hoth hdef hsz hap
     change v 0 = _ at hv0
     simp only [puts, List.getD_cons_zero, List.getD_cons_succ, hv0, hv10]
     generalize v 1 = v1
     generalize v 2 = v2
     generalize v 3 = v3
     generalize v 4 = v4
     generalize v 5 = v5
     generalize v 6 = v6
     generalize v 7 = v7
     generalize v 8 = v8
     generalize v 9 = v9
     clear hv0 hv10
     simp only [Act.put, List.setIfInBounds_toArray, List.set_cons_zero, List.set_cons_succ]
     show wpList _ _ _ [_, _] _ _
     have O1 : Hid (∀ u ∈ [.string x.1, .string x.2, .int .i64 t.kd, .string t.nm.1, .string t.nm.2, z0, z1, z2, z3, z4, z5, z6, .slice A5 t.args.length c5], u.oneCell' = true) := (show ∀ u ∈ _, _ from fun u hu => by
      have := HX.out.one
      simp only [List.mem_cons] at hu this
      rcases hu with rfl | rfl | hu
      · rfl
      · rfl
      · exact this u hu)
     have own3 := hI (HMK.out.below hb).own
     rw [HLN.out] at own3
     have h3 : TmAt w9 (Upto wo w9 S) t [.int .i64 t.kd, .string t.nm.1, .string t.nm.2, z0, z1, z2, z3, z4, z5, z6, .slice A5 t.args.length c5] := (HX.out.below (HS.out.later hws) hb).more (fun b hb => .inl hb)
     have HSTEP : Hid (∀ v' w4, w4.ownsRow w.heap.size 54 13 v' (i + 1) (xs.flatten ++ [.string x.1, .string x.2, .int .i64 t.kd, .string t.nm.1, .string t.nm.2, z0, z1, z2, z3, z4, z5, z6, .slice A5 t.args.length c5]) → w9.grownBy w4 sl.ownBlock → (v'.ownBlock = sl.ownBlock ∨ v'.ownBlock = some w9.heap.size) → ∃ xs, MkA S w w4 ((bindF ps ts).take (i + 1)) v' xs) :=
      fun v' w4 h4 hg hat => ⟨_, by rw [HTK.out]; exact HMK.out.step2 HS.out hb h3 (by rw [HLN.out]; exact h4) hg hat⟩
     have hnews : ∀ j u, [.string x.1, .string x.2, .int .i64 t.kd, .string t.nm.1, .string t.nm.2, z0, z1, z2, z3, z4, z5, z6, .slice A5 t.args.length c5][j]? = some u → w9.cell? ((⟨lo 10, 0, none⟩ : Addr).add j) = some u := news_at hrow
     have hs3 : w.heap.size ≤ w9.heap.size := by have := hb.size; omega
     have HNEWS := hI hnews
     generalize lo 10 = qq at *
     clear h3 hb hnews HMK hrow hlt10 HTK
     go_wp2_with (at_builtin; refine wpList_append_own_at _ rfl (.tmp 19) (.tmp 29) _ rfl w.heap.size 54 i0 _ 13 208 Tryz.underlying50 HI0.out HZ0.out HZ1.out HZ2.out rfl (by omega) sl i xs.flatten rfl own3.out ⟨qq, 0, none⟩ 1 1 [.string x.1, .string x.2, .int .i64 t.kd, .string t.nm.1, .string t.nm.2, z0, z1, z2, z3, z4, z5, z6, .slice A5 t.args.length c5] rfl rfl HNEWS.out O1.out (by simp only [maxLen]; omega) (by omega) hs3 ?_; intro v4 w4 hown4 hg4 hnil4 hat4; have hst := hI (HSTEP.out v4 w4 hown4 hg4 hat4); clear hown4 hg4 hnil4 hat4)
     go_roundw
     case rel => exact ⟨i + 1, _, rfl, by omega, by go_num, hst⟩
     case measure => simp [intOf]; omega
  · have hiL2 : i = L := by omega
    have hn2 : ¬ (i : Int) < L := by omega
    have hM2 : MkA S w wo (bindF ps ts) sl xs := by
     have h := hM
     rw [hiL2, List.take_of_length_le (by rw [bindF_len ps ts HLEN.out, HL.out]; omega)] at h
     exact h
    have HR : Hid (RetAs w S (bindF ps ts) (.returned sl) wo) := ⟨sl, rfl, hM2.slice, hbel⟩
    clear hE hM hM2 hbel hlt
    go_wp2_with fail
    go_ret
    exact HR.out
def AsR (w : World) (S : Nat → Prop) (g n : Nat) (l : List (Nm × Tm)) (i : Nat) : Prop := ∃ cur : List Value, w.heap[g]? = some (.cells cur.toArray 54 (0, 0)) ∧ cur.length = n * 13 ∧
 ∀ j (hj : j < l.length), j < i → ∃ cs, TmAt w S l[j].2 cs ∧ ∀ q u, (Value.string l[j].1.1 :: Value.string l[j].1.2 :: cs)[q]? = some u → cur[j * 13 + q]? = some u
theorem AsR.below {w w' : World} {S : Nat → Prop} {g n i : Nat} {l : List (Nm × Tm)} (h : AsR w S g n l i) (hS : In S w) (hb : Below w.heap.size w w') : AsR w' S g n l i := by
 obtain ⟨cur, h1, h2, h3⟩ := h
 refine ⟨cur, (hb.block g (lt_of_heap h1)).trans h1, h2, fun j hj hi => ?_⟩
 obtain ⟨cs, k1, k2⟩ := h3 j hj hi
 exact ⟨cs, k1.below hS hb, k2⟩
theorem AsR.step {w : World} {S : Nat → Prop} {g n i : Nat} {l : List (Nm × Tm)} (h : AsR w S g n l i) (hg : ¬ S g) (hi : i < l.length) (hn : l.length = n) {cs : List Value} (ht : TmAt w S l[i].2 cs) : AsR (w.setCells g (i * 13) (Value.string l[i].1.1 :: Value.string l[i].1.2 :: cs)) S g n l (i + 1) := by
 obtain ⟨cur, h1, h2, h3⟩ := h
 have hl := ht.length
 have e := setCells_row (t := 54) (Value.string l[i].1.1 :: Value.string l[i].1.2 :: cs) (i * 13) cur w h1
 have hk : ∀ b, S b → (w.setCells g (i * 13) (Value.string l[i].1.1 :: Value.string l[i].1.2 :: cs)).heap[b]? = w.heap[b]? := fun b hb => setCells_other g b (fun e => hg (e ▸ hb)) _ _ _
 have hm : (i + 1) * 13 ≤ n * 13 := Nat.mul_le_mul_right _ (by omega)
 refine ⟨repl cur (i * 13) (Value.string l[i].1.1 :: Value.string l[i].1.2 :: cs), by rw [e]; exact setRow_heap w g _ _ _ _ h1, by rw [repl_length]; exact h2, fun j hj hji => ?_⟩
 by_cases hji2 : j = i
 · subst hji2
   exact ⟨cs, TmAt.keep (fun _ h => h) hk _ _ ht, fun q u hq => repl_in _ _ _ _ _ (by simp only [List.length_cons]; omega) hq⟩
 · obtain ⟨cs', k1, k2⟩ := h3 j hj (by omega)
   refine ⟨cs', TmAt.keep (fun _ h => h) hk _ _ k1, fun q u hq => ?_⟩
   have hq13 : q < 13 := by
    have := k1.length
    rcases Nat.lt_or_ge q 13 with h0 | h0
    · exact h0
    · rw [List.getElem?_eq_none (by simp only [List.length_cons]; omega)] at hq; cases hq
   have hj13 : (j + 1) * 13 ≤ i * 13 := Nat.mul_le_mul_right _ (by omega)
   rw [repl_out _ _ _ _ (.inl (by omega))]
   exact k2 q u hq
theorem AsR.asV {w0 w : World} {S : Nat → Prop} {g n : Nat} {l : List (Nm × Tm)} (h : AsR w S g n l n) (hn : l.length = n) (hg : w0.heap.size ≤ g) : AsV w (Upto w0 w S) l (.slice (some ⟨g, 0, none⟩) n n) := by
 obtain ⟨cur, h1, h2, h3⟩ := h
 refine ⟨_, n, by rw [hn], by omega, fun _ => ⟨g, 0, rfl, ⟨.inr ⟨hg, lt_of_heap h1⟩, _, _, h1⟩, fun i hi => ?_⟩⟩
 obtain ⟨cs, k1, k2⟩ := h3 i hi (by omega)
 refine ⟨cs, k1.more (fun b hb => .inl hb), fun j u hj => ?_⟩
 rw [Nat.zero_add, cell_of_row _ _ _ _ _ _ h1]
 have := k2 j u hj
 simpa using this
theorem makeAs (n : Nat) (h : n ≤ 10000) (w : World) : ∃ cs : List Value, cs.length = n * 13 ∧
 (Instr.makeSlice 50 (.int .i64 (n : Int)) (.int .i64 (n : Int))).run Tryz.prog w = .ok (.slice (some ⟨w.heap.size, 0, none⟩) n n) (w.alloc (.cells cs.toArray 54)) := by
 obtain ⟨i, hi, hz, hs, hb⟩ := infoA
 refine ⟨(madeCells (Value.agg #[.string ⟨#[]⟩, .string ⟨#[]⟩, .int .i64 0, .string ⟨#[]⟩, .string ⟨#[]⟩, .int .i64 0, .string ⟨#[]⟩, .string ⟨#[]⟩, .string ⟨#[]⟩, .string ⟨#[]⟩, .string ⟨#[]⟩, .slice none 0 0, .slice none 0 0]).cells (n * i.size)).toList, ?_, ?_⟩
 · rw [hs]
   simp [madeCells]
 · have := make_rowN 50 54 i _ Tryz.underlying50 hi hz .i64 .i64 n n (Nat.le_refl _) (by rw [hb]; omega) (by omega) w
   simpa using this
theorem assignmentP (ps : List Nm) (ts : List Tm) (pv : Value) (A : Option Addr) (c : Nat) (w : World) (S : Nat → Prop) (hS : In S w) (hp : NsV w S ps pv) (ha : ArgsAt w S ts A c) (hlen : ps.length = ts.length) (hl : ps.length ≤ 10000) :
 Calls Tryz.prog 87 #[pv, .slice A ts.length c] w (RetAs w S (bindF ps ts)) := by
 have hp' := hp
 obtain ⟨Ap, cp, rfl, hpc, hpr⟩ := hp'
 obtain ⟨L, hL⟩ : ∃ L, ps.length = L := ⟨_, rfl⟩
 have hLt : ts.length = L := by omega
 have hc1 := ha.1
 rw [hL] at hpc hl ⊢
 rw [hLt] at hc1 ⊢
 have HL := hI hL
 have HLT := hI hLt
 have HLEN := hI hlen
 have HPR := hI hpr
 have HAR := hI ha
 have HS := hI hS
 obtain ⟨zs, hzl, hmk⟩ := makeAs L (by omega) w
 have h0 : Hid (AsR (w.alloc (.cells zs.toArray 54)) S w.heap.size L (bindF ps ts) 0 ∧ Below w.heap.size w (w.alloc (.cells zs.toArray 54))) := ⟨⟨zs, heap_alloc_new w _, hzl, fun j hj h => absurd h (by omega)⟩, Below.alloc (Below.refl _ _) (Nat.le_refl _) _⟩
 have hgr : Hid (w.heap.size ≤ w.heap.size) := Nat.le_refl _
 clear hp hpr ha hS hL hLt hlen hzl
 go_enter Tryz.func87, Tryz.ntmps87
 go_upto_region 2 with fail
 clear hmk
 generalize w.alloc (.cells zs.toArray 54) = Y at *
 obtain ⟨gr, hgr'⟩ : ∃ g, w.heap.size = g := ⟨_, rfl⟩
 have HGR : Hid (w.heap.size = gr) := hgr'
 rw [hgr'] at ⊢
 have h0' : Hid (AsR Y S gr L (bindF ps ts) 0 ∧ Below w.heap.size w Y) := (show _ ∧ _ by rw [← hgr']; exact h0.out)
 clear h0 hgr hgr'
 go_wp2_with fail
 go_loopw [13] (fun v wr => ∃ (i : Nat), i ≤ L ∧ v = .int .i64 (i : Int) ∧ Hid (AsR wr S gr L (bindF ps ts) i ∧ Below w.heap.size w wr)) (fun v _ => L - (intOf v).toNat)
 case atStart => exact ⟨0, Nat.zero_le _, rfl, h0'⟩
 case round =>
  clear h0'
  obtain ⟨i, hiL, rfl, hE⟩ := hrel
  obtain ⟨wo, rfl⟩ : ∃ wo : World, wo = wr := ⟨_, rfl⟩
  obtain ⟨hM, hbel⟩ := hE.out
  by_cases hlt : i < L
  · have HM := hI hM
    have HBEL := hI hbel
    have hws := hbel.size
    have HBL : Hid ((bindF ps ts).length = L) := (show _ = _ by rw [bindF_len ps ts HLEN.out, HL.out])
    have hbi : i < (bindF ps ts).length := by rw [HBL.out]; exact hlt
    obtain ⟨bp, op, rfl, hbp, hcn⟩ := HPR.out (by have := HL.out; omega)
    have hip : i < ps.length := by rw [HL.out]; exact hlt
    have hit : i < ts.length := by rw [HLT.out]; exact hlt
    obtain ⟨ba, oa, cx, rfl, hP⟩ := HAR.out.arg hit
    have hP' := hP.below HS.out hbel
    obtain ⟨n0, n1⟩ := hcn i hip
    have hbp1 : bp < w.heap.size := HS.out bp hbp.1
    have hba1 : ba < w.heap.size := HS.out ba hP.1.1
    have X0 := hI ((hbel.cell (p := ⟨bp, op + i * 2, none⟩) hbp1).trans n0)
    have X1 := hI ((hbel.cell (p := ⟨bp, op + i * 2 + 1, none⟩) hbp1).trans n1)
    have HBP : Hid (bp < wo.heap.size) := Nat.lt_of_lt_of_le hbp1 hbel.size
    have HBA : Hid (ba < wo.heap.size) := Nat.lt_of_lt_of_le hba1 hbel.size
    have hget := bindF_get ps ts i hip hit hbi
    generalize ps[i] = x at *
    generalize ts[i] = t at *
    obtain ⟨z0, z1, z2, z3, z4, z5, z6, A5, c5, rfl, hva, har2, k0, k1, k2, k3, k4, k5, k6, k7, k8, k9, k10⟩ := hP'.cells
    have HX := hI hP'.2.1
    have K0 := hI k0
    have K1 := hI k1
    have K2 := hI k2
    have K3 := hI k3
    have K4 := hI k4
    have K5 := hI k5
    have K6 := hI k6
    have K7 := hI k7
    have K8 := hI k8
    have K9 := hI k9
    have K10 := hI k10
    have hng : ¬ S gr := fun h => by have := HS.out gr h; have := HGR.out; omega
    have HST : Hid (∀ V, AsR V S gr L (bindF ps ts) i → TmAt V S t [.int .i64 t.kd, .string t.nm.1, .string t.nm.2, z0, z1, z2, z3, z4, z5, z6, .slice A5 t.args.length c5] → AsR (V.setCells gr (i * 13) [.string x.1, .string x.2, .int .i64 t.kd, .string t.nm.1, .string t.nm.2, z0, z1, z2, z3, z4, z5, z6, .slice A5 t.args.length c5]) S gr L (bindF ps ts) (i + 1)) := fun V h ht => by
     have h2 := h.step hng hbi HBL.out (cs := [.int .i64 t.kd, .string t.nm.1, .string t.nm.2, z0, z1, z2, z3, z4, z5, z6, .slice A5 t.args.length c5]) (by rw [hget]; exact ht)
     rw [hget] at h2
     exact h2
    have hX : Below wo.heap.size wo (wo.alloc (.cells #[.string x.1, .string x.2] 23)) := below_alT wo _
    have hV : (wo.alloc (.cells #[.string x.1, .string x.2] 23)).heap[wo.heap.size]? = some (.cells #[.string x.1, .string x.2] 23 (0, 0)) := heap_alloc_new wo _
    have HVX := hI hV
    have HXX := hI hX
    have HO13 : Hid (∀ u ∈ [.string x.1, .string x.2, .int .i64 t.kd, .string t.nm.1, .string t.nm.2, z0, z1, z2, z3, z4, z5, z6, .slice A5 t.args.length c5], u.oneCell' = true) := (show ∀ u ∈ _, _ from fun u hu => by
     have := HX.out.one
     simp only [List.mem_cons] at hu this
     rcases hu with rfl | rfl | hu
     · rfl
     · rfl
     · exact this u hu)
    have HTX : Hid (TmAt wo S t [.int .i64 t.kd, .string t.nm.1, .string t.nm.2, z0, z1, z2, z3, z4, z5, z6, .slice A5 t.args.length c5]) := HX.out
    have n0' := X0.out
    have n1' := X1.out
    clear hE hM hbel hcn hP hP' n0 n1 hbp hbp1 hba1 hva har2 k0 k1 k2 k3 k4 k5 k6 k7 k8 k9 k10 hip hit hget hbi hng hX hV HX
    go_wp2_with fail
    clear n0' n1' X0 X1
    generalize (wo.alloc (.cells #[.string x.1, .string x.2] 23)) = X at *
    have V0 : Hid (X.cell? ⟨wo.heap.size, 0, none⟩ = some (.string x.1)) := (show _ = _ by rw [cell_of_row _ _ _ _ _ _ HVX.out]; rfl)
    have V1 : Hid (X.cell? ⟨wo.heap.size, 1, none⟩ = some (.string x.2)) := (show _ = _ by rw [cell_of_row _ _ _ _ _ _ HVX.out]; rfl)
    have HLV : Hid (wo.heap.size < X.heap.size) := lt_of_heap HVX.out
    have HSX : Hid (In S wo) := HS.out.later hws
    replace K0 := hI ((HXX.out.cell (p := ⟨ba, oa + i * 11, none⟩) HBA.out).trans K0.out)
    replace K1 := hI ((HXX.out.cell (p := ⟨ba, oa + i * 11 + 1, none⟩) HBA.out).trans K1.out)
    replace K2 := hI ((HXX.out.cell (p := ⟨ba, oa + i * 11 + 2, none⟩) HBA.out).trans K2.out)
    replace K3 := hI ((HXX.out.cell (p := ⟨ba, oa + i * 11 + 3, none⟩) HBA.out).trans K3.out)
    replace K4 := hI ((HXX.out.cell (p := ⟨ba, oa + i * 11 + 4, none⟩) HBA.out).trans K4.out)
    replace K5 := hI ((HXX.out.cell (p := ⟨ba, oa + i * 11 + 5, none⟩) HBA.out).trans K5.out)
    replace K6 := hI ((HXX.out.cell (p := ⟨ba, oa + i * 11 + 6, none⟩) HBA.out).trans K6.out)
    replace K7 := hI ((HXX.out.cell (p := ⟨ba, oa + i * 11 + 7, none⟩) HBA.out).trans K7.out)
    replace K8 := hI ((HXX.out.cell (p := ⟨ba, oa + i * 11 + 8, none⟩) HBA.out).trans K8.out)
    replace K9 := hI ((HXX.out.cell (p := ⟨ba, oa + i * 11 + 9, none⟩) HBA.out).trans K9.out)
    replace K10 := hI ((HXX.out.cell (p := ⟨ba, oa + i * 11 + 10, none⟩) HBA.out).trans K10.out)
    replace HBA : Hid (ba < X.heap.size) := Nat.lt_of_lt_of_le HBA.out HXX.out.size
    replace HTX : Hid (TmAt X S t [.int .i64 t.kd, .string t.nm.1, .string t.nm.2, z0, z1, z2, z3, z4, z5, z6, .slice A5 t.args.length c5]) := HTX.out.below HSX.out HXX.out
    have HMX : Hid (AsR X S gr L (bindF ps ts) i) := HM.out.below HSX.out HXX.out
    have HBX : Hid (Below w.heap.size w X) := chain2 HBEL.out HXX.out (Nat.le_refl _)
    have HSX2 : Hid (In S X) := HSX.out.later HXX.out.size
    clear HM HBEL HXX HVX HBP HSX hws
    generalize wo.heap.size = gv at *
    refine wp_region_grow (l := _) 9 (by kernel_rfl) (by kernel_rfl) (fun i => [18, 19, 20, 21, 22, 23, 24, 25, 26].getD i 0) (LR [LV (.slice (some ⟨gr, 0, none⟩) L L), LV (.int .i64 (i : Int)), LV (.agg #[.string x.1, .string x.2]), LV (.slice (some ⟨ba, oa, none⟩) L c), LV (.int .i64 (i : Int)), LV (.pointer (some ⟨ba, oa + i * 11, none⟩)), LV (.agg #[.int .i64 t.kd, .string t.nm.1, .string t.nm.2, z0, z1, z2, z3, z4, z5, z6, .slice A5 t.args.length c5]), LV (.agg #[.string x.1, .string x.2, .int .i64 t.kd, .string t.nm.1, .string t.nm.2, z0, z1, z2, z3, z4, z5, z6, .slice A5 t.args.length c5]), LV (.pointer (some ⟨gr, i * 13, none⟩))]) (LR_mono ⟨mLV _, mLV _, mLV _, mLV _, mLV _, mLV _, mLV _, mLV _, mLV _, trivial⟩) (by
     intro i j hi hj h
     exact inj_getD [18, 19, 20, 21, 22, 23, 24, 25, 26] (by decide) i j hi hj h) (by
     intro i hi
     exact lt_getD 29 [18, 19, 20, 21, 22, 23, 24, 25, 26] (by decide) i hi) ?step ?done
    case step =>
     intro ii hii a w9 v lo hi' hoth hb hw
     have sl5 : a.tmps[5]? = some (.slice (some ⟨gr, 0, none⟩) L L) := (hoth 5 (fun j hj => ne_getD 5 _ (by decide) j hj)).trans rfl
     have sl6 : a.tmps[6]? = some (.int .i64 (i : Int)) := (hoth 6 (fun j hj => ne_getD 6 _ (by decide) j hj)).trans rfl
     have sl7 : a.tmps[7]? = some (.pointer (some ⟨gv, 0, none⟩)) := (hoth 7 (fun j hj => ne_getD 7 _ (by decide) j hj)).trans rfl
     have sl1 : a.tmps[1]? = some (.slice (some ⟨ba, oa, none⟩) L c) := (hoth 1 (fun j hj => ne_getD 1 _ (by decide) j hj)).trans rfl
     match ii, hii with
     | 0, _ =>
      exact gw_move rfl (wanted_plain rfl) 5 _ rfl sl5 ⟨_, rfl, Below.refl _ _, rfl⟩
     | 1, _ =>
      exact gw_move rfl (wanted_plain rfl) 6 _ rfl sl6 ⟨_, rfl, Below.refl _ _, rfl⟩
     | 2, _ =>
      have cn0 := (hb.cell (p := ⟨gv, 0, none⟩) HLV.out).trans V0.out
      have cn1 := (hb.cell (p := ⟨gv, 1, none⟩) HLV.out).trans V1.out
      refine wpOp_step rfl fun K' hK' => ?_
      rw [if_pos (wanted_plain rfl)]
      unfold Oper.wp
      simp only [execOp]
      go_simp
      exact hK' _ _ ⟨_, rfl, Below.refl _ _, rfl⟩
     | 3, _ =>
      exact gw_move rfl (wanted_plain rfl) 1 _ rfl sl1 ⟨_, rfl, Below.refl _ _, rfl⟩
     | 4, _ =>
      exact gw_move rfl (wanted_plain rfl) 6 _ rfl sl6 ⟨_, rfl, Below.refl _ _, rfl⟩
     | 5, _ =>
      obtain ⟨s0, r0, _⟩ := hw 3 (by omega) (by kernel_rfl)
      have e0 : v 3 = .slice (some ⟨ba, oa, none⟩) L c := r0
      rw [e0] at s0
      replace s0 : a.tmps[21]? = some (.slice (some ⟨ba, oa, none⟩) L c) := s0
      obtain ⟨s1, r1, _⟩ := hw 4 (by omega) (by kernel_rfl)
      have e1 : v 4 = .int .i64 (i : Int) := r1
      rw [e1] at s1
      replace s1 : a.tmps[22]? = some (.int .i64 (i : Int)) := s1
      refine wpOp_step rfl fun K' hK' => ?_
      rw [if_pos (wanted_plain rfl)]
      unfold Oper.wp
      simp only [execOp]
      go_simp
      exact hK' _ _ ⟨_, rfl, Below.refl _ _, rfl⟩
     | 6, _ =>
      obtain ⟨s0, r0, _⟩ := hw 5 (by omega) (by kernel_rfl)
      have e0 : v 5 = .pointer (some ⟨ba, oa + i * 11, none⟩) := r0
      rw [e0] at s0
      replace s0 : a.tmps[23]? = some (.pointer (some ⟨ba, oa + i * 11, none⟩)) := s0
      have ck0 := (hb.cell (p := ⟨ba, oa + i * 11, none⟩) HBA.out).trans K0.out
      have ck1 := (hb.cell (p := ⟨ba, oa + i * 11 + 1, none⟩) HBA.out).trans K1.out
      have ck2 := (hb.cell (p := ⟨ba, oa + i * 11 + 2, none⟩) HBA.out).trans K2.out
      have ck3 := (hb.cell (p := ⟨ba, oa + i * 11 + 3, none⟩) HBA.out).trans K3.out
      have ck4 := (hb.cell (p := ⟨ba, oa + i * 11 + 4, none⟩) HBA.out).trans K4.out
      have ck5 := (hb.cell (p := ⟨ba, oa + i * 11 + 5, none⟩) HBA.out).trans K5.out
      have ck6 := (hb.cell (p := ⟨ba, oa + i * 11 + 6, none⟩) HBA.out).trans K6.out
      have ck7 := (hb.cell (p := ⟨ba, oa + i * 11 + 7, none⟩) HBA.out).trans K7.out
      have ck8 := (hb.cell (p := ⟨ba, oa + i * 11 + 8, none⟩) HBA.out).trans K8.out
      have ck9 := (hb.cell (p := ⟨ba, oa + i * 11 + 9, none⟩) HBA.out).trans K9.out
      have ck10 := (hb.cell (p := ⟨ba, oa + i * 11 + 10, none⟩) HBA.out).trans K10.out
      refine wpOp_step rfl fun K' hK' => ?_
      rw [if_pos (wanted_plain rfl)]
      unfold Oper.wp
      simp only [execOp]
      go_simp
      exact hK' _ _ ⟨_, rfl, Below.refl _ _, rfl⟩
     | 7, _ =>
      obtain ⟨s0, r0, _⟩ := hw 2 (by omega) (by kernel_rfl)
      have e0 : v 2 = .agg #[.string x.1, .string x.2] := r0
      rw [e0] at s0
      replace s0 : a.tmps[20]? = some (.agg #[.string x.1, .string x.2]) := s0
      obtain ⟨s1, r1, _⟩ := hw 6 (by omega) (by kernel_rfl)
      have e1 : v 6 = .agg #[.int .i64 t.kd, .string t.nm.1, .string t.nm.2, z0, z1, z2, z3, z4, z5, z6, .slice A5 t.args.length c5] := r1
      rw [e1] at s1
      replace s1 : a.tmps[24]? = some (.agg #[.int .i64 t.kd, .string t.nm.1, .string t.nm.2, z0, z1, z2, z3, z4, z5, z6, .slice A5 t.args.length c5]) := s1
      refine wpOp_step rfl fun K' hK' => ?_
      rw [if_pos (wanted_plain rfl)]
      unfold Oper.wp
      simp only [execOp]
      go_simp
      exact hK' _ _ ⟨_, rfl, Below.refl _ _, rfl⟩
     | 8, _ =>
      obtain ⟨s0, r0, _⟩ := hw 0 (by omega) (by kernel_rfl)
      have e0 : v 0 = .slice (some ⟨gr, 0, none⟩) L L := r0
      rw [e0] at s0
      replace s0 : a.tmps[18]? = some (.slice (some ⟨gr, 0, none⟩) L L) := s0
      obtain ⟨s1, r1, _⟩ := hw 1 (by omega) (by kernel_rfl)
      have e1 : v 1 = .int .i64 (i : Int) := r1
      rw [e1] at s1
      replace s1 : a.tmps[19]? = some (.int .i64 (i : Int)) := s1
      refine wpOp_step rfl fun K' hK' => ?_
      rw [if_pos (wanted_plain rfl)]
      unfold Oper.wp
      simp only [execOp]
      go_simp
      exact hK' _ _ ⟨_, rfl, Below.refl _ _, rfl⟩
    case done =>
     intro a w9 v lo hi' hdef hsz hoth hb hj hap
     obtain ⟨_, hv7, _, _⟩ := hj 7 (by omega)
     obtain ⟨_, hv8, _, _⟩ := hj 8 (by omega)
     have ha := eq_puts hdef hsz hoth (fun i hi => (hj i hi).1)
     subst ha
     clear hj hoth hdef hsz hap
     change v 7 = _ at hv7
     change v 8 = _ at hv8
     simp only [puts, List.getD_cons_zero, List.getD_cons_succ, hv7, hv8]
     generalize v 0 = v0
     generalize v 1 = v1
     generalize v 2 = v2
     generalize v 3 = v3
     generalize v 4 = v4
     generalize v 5 = v5
     generalize v 6 = v6
     clear hv7 hv8
     simp only [Act.put, List.setIfInBounds_toArray, List.set_cons_zero, List.set_cons_succ]
     show wpList _ _ _ [_] _ _
     have h9 := HMX.out.below HSX2.out hb
     have ht9 := HTX.out.below HSX2.out hb
     have THR : Hid (w9.there gr (i * 13) (#[.string x.1, .string x.2, .int .i64 t.kd, .string t.nm.1, .string t.nm.2, z0, z1, z2, z3, z4, z5, z6, .slice A5 t.args.length c5] : Array Value).size) := by
      obtain ⟨cur, q1, q2, _⟩ := h9
      have hm : (i + 1) * 13 ≤ L * 13 := Nat.mul_le_mul_right _ (by omega)
      refine there_row q1 ?_
      show i * 13 + 13 ≤ _
      rw [List.size_toArray]; omega
     have HNX : Hid (AsR (w9.setCells gr (i * 13) [.string x.1, .string x.2, .int .i64 t.kd, .string t.nm.1, .string t.nm.2, z0, z1, z2, z3, z4, z5, z6, .slice A5 t.args.length c5]) S gr L (bindF ps ts) (i + 1) ∧ Below w.heap.size w (w9.setCells gr (i * 13) [.string x.1, .string x.2, .int .i64 t.kd, .string t.nm.1, .string t.nm.2, z0, z1, z2, z3, z4, z5, z6, .slice A5 t.args.length c5])) := ⟨HST.out w9 h9 ht9, setCells_below (Nat.le_of_eq HGR.out) _ _ _ (chain2 HBX.out hb (Nat.le_refl _))⟩
     clear h9 ht9 hb HMX HTX HST HBX
     go_wp2_with ((with_reducible refine wpList_store_mid ?_ 54 (.tmp 26) (.tmp 25) ?_ gr (i * 13) #[.string x.1, .string x.2, .int .i64 t.kd, .string t.nm.1, .string t.nm.2, z0, z1, z2, z3, z4, z5, z6, .slice A5 t.args.length c5] ?_ ?_ ?_ ?_ ?_ ?_); rfl; rfl; rfl; rfl; exact THR.out; kernel_rfl; (rw [Array.all_eq_true_iff_forall_mem]; intro u hu; exact HO13.out u (by simpa using hu)))
     go_roundw
     case rel => exact ⟨i + 1, by omega, by go_num, HNX⟩
     case measure => simp [intOf]; omega
  · have hiL2 : i = L := by omega
    have hn2 : ¬ (i : Int) < L := by omega
    subst hiL2
    have HR : Hid (RetAs w S (bindF ps ts) (.returned (.slice (some ⟨gr, 0, none⟩) i i)) wo) := ⟨_, rfl, hM.asV (by rw [bindF_len ps ts HLEN.out, HL.out]) (Nat.le_of_eq HGR.out), hbel⟩
    clear hE hM hbel hlt
    go_wp2_with fail
    go_ret
    exact HR.out
def replO (l : List Lm) : Tm → Option Lm
 | .app s ts => replF l s ts.length
 | _ => none
def okF (n : Nat) : Option Lm → Option Lm
 | some f => if f.2.1.length = n then some f else none
 | none => none
theorem replF_eq (l : List Lm) (s : Nm) (n : Nat) : replF l s n = okF n (findF l s) := by
 unfold replF okF
 cases findF l s <;> rfl
def LmP (w : World) (S : Nat → Prop) (f : Lm) (b o : Nat) : Prop := (S b ∧ Plain w b) ∧ ∃ cs, LmC w S f cs ∧ ∀ j u, cs[j]? = some u → w.cell? ⟨b, o + j, none⟩ = some u
theorem LmP.below {w w' : World} {S : Nat → Prop} {B : Nat} {f : Lm} {b o : Nat} (h : LmP w S f b o) (hS : ∀ b, S b → b < B) (hb : Below B w w') : LmP w' S f b o := by
 obtain ⟨h1, cs, h2, h3⟩ := h
 exact ⟨⟨h1.1, h1.2.keep (hb.block b (hS b h1.1))⟩, cs, h2.keep (fun _ h => h) (fun q hq => hb.block q (hS q hq)), fun j u hj => (hb.cell (p := ⟨b, o + j, none⟩) (hS b h1.1)).trans (h3 j u hj)⟩
theorem LmP.cells {w : World} {S : Nat → Prop} {f : Lm} {b o : Nat} (h : LmP w S f b o) : ∃ A c x0 x1 x2 x3 x4 x5 x6 A2 c2, NsV w S f.2.1 (.slice A f.2.1.length c) ∧ TmAt w S f.2.2 [.int .i64 f.2.2.kd, .string f.2.2.nm.1, .string f.2.2.nm.2, x0, x1, x2, x3, x4, x5, x6, .slice A2 f.2.2.args.length c2] ∧
 w.cell? ⟨b, o, none⟩ = some (.string f.1.1) ∧ w.cell? ⟨b, o + 1, none⟩ = some (.string f.1.2) ∧ w.cell? ⟨b, o + 2, none⟩ = some (.slice A f.2.1.length c) ∧ w.cell? ⟨b, o + 3, none⟩ = some (.int .i64 f.2.2.kd) ∧ w.cell? ⟨b, o + 4, none⟩ = some (.string f.2.2.nm.1) ∧ w.cell? ⟨b, o + 5, none⟩ = some (.string f.2.2.nm.2) ∧
 w.cell? ⟨b, o + 6, none⟩ = some x0 ∧ w.cell? ⟨b, o + 7, none⟩ = some x1 ∧ w.cell? ⟨b, o + 8, none⟩ = some x2 ∧ w.cell? ⟨b, o + 9, none⟩ = some x3 ∧ w.cell? ⟨b, o + 10, none⟩ = some x4 ∧ w.cell? ⟨b, o + 11, none⟩ = some x5 ∧ w.cell? ⟨b, o + 12, none⟩ = some x6 ∧ w.cell? ⟨b, o + 13, none⟩ = some (.slice A2 f.2.2.args.length c2) := by
 obtain ⟨_, cs, ⟨pv, bc, rfl, h1, h2⟩, h3⟩ := h
 have h1' := h1
 obtain ⟨A, c, rfl, _⟩ := h1'
 obtain ⟨x0, x1, x2, x3, x4, x5, x6, A2, c2, rfl, _, _⟩ := h2.eleven
 exact ⟨A, c, x0, x1, x2, x3, x4, x5, x6, A2, c2, h1, h2, h3 0 _ rfl, h3 1 _ rfl, h3 2 _ rfl, h3 3 _ rfl, h3 4 _ rfl, h3 5 _ rfl, h3 6 _ rfl, h3 7 _ rfl, h3 8 _ rfl, h3 9 _ rfl, h3 10 _ rfl, h3 11 _ rfl, h3 12 _ rfl, h3 13 _ rfl⟩
theorem LmsV.at {w : World} {S : Nat → Prop} {l : List Lm} {A : Option Addr} {c i : Nat} (h : LmsV w S l (.slice A l.length c)) (hi : i < l.length) : ∃ b o, A = some ⟨b, o, none⟩ ∧ LmP w S l[i] b (o + i * 14) := by
 obtain ⟨A', c', e, _, h3⟩ := h
 injection e with e1 e2 e3
 subst e1
 obtain ⟨b, o, rfl, hb, hr⟩ := h3 (by omega)
 obtain ⟨cs, k1, k2⟩ := hr i hi
 exact ⟨b, o, rfl, hb, cs, k1, k2⟩
def RetRp (w : World) (S : Nat → Prop) (R : Option Lm) (e : Ending) (w' : World) : Prop := Below w.heap.size w w' ∧ match R with
 | none => e = .returned (.pointer none)
 | some f => ∃ b o, e = .returned (.pointer (some ⟨b, o, none⟩)) ∧ LmP w S f b o
theorem replacementP (l : List Lm) (lv : Value) (t : Tm) (b k : Nat) (cs : List Value) (w : World) (S : Nat → Prop) (hS : In S w) (hl : LmsV w S l lv) (hP : TmQ w S t b k cs) (hlen : l.length ≤ 10000) :
 Calls Tryz.prog 86 #[lv, .pointer (some ⟨b, k, none⟩)] w (RetRp w S (replO l t)) := by
 have hl' := hl
 obtain ⟨A, c, rfl, hlc, _⟩ := hl'
 have hb0 : b < w.heap.size := hP.1.1
 obtain ⟨z0, z1, z2, z3, z4, z5, z6, A5, c5, _, _, har, k0, k1, k2, _, _, _, _, _, _, _, k10⟩ := (hP.p hS).cells
 have HLM := hI hl
 have HS := hI hS
 have hc5 := har.1
 by_cases hk : t.kd = 3
 · obtain ⟨x, ts, rfl⟩ : ∃ x ts, t = .app x ts := by
    cases t with
    | var s => exact absurd hk (by simp [Tm.kd])
    | con o => exact absurd hk (by simp [Tm.kd])
    | app s l => exact ⟨s, l, rfl⟩
   have hR : replO l (.app x ts) = replF l x ts.length := rfl
   rw [hR]
   obtain ⟨R, hRf⟩ : ∃ R, findF l x = R := ⟨_, rfl⟩
   have HRF : Hid (replF l x ts.length = okF ts.length R) := (show _ = _ by rw [← hRf]; exact replF_eq _ _ _)
   have k0' : w.cell? ⟨b, k, none⟩ = some (.int .i64 3) := k0
   have k1' : w.cell? ⟨b, k + 1, none⟩ = some (.string x.1) := k1
   have k2' : w.cell? ⟨b, k + 2, none⟩ = some (.string x.2) := k2
   have k10' : w.cell? ⟨b, k + 10, none⟩ = some (.slice A5 ts.length c5) := k10
   obtain ⟨N, hN⟩ : ∃ N, ts.length = N := ⟨_, rfl⟩
   rw [hN] at k10' HRF ⊢
   obtain ⟨L, hL⟩ : ∃ L, l.length = L := ⟨_, rfl⟩
   have HL := hI hL
   rw [hL] at hlen hlc ⊢
   have HKK := hI (And.intro k0' (And.intro k1' (And.intro k2' (And.intro k10' hb0))))
   have h0 : Hid (findF (l.drop 0) x = R ∧ Below w.heap.size w w) := ⟨by rw [List.drop_zero]; exact hRf, Below.refl _ _⟩
   clear hl hP hS k0 k1 k2 k10 k1' k2' k10' har hc5 hRf hL hN hk hR
   go_enter Tryz.func86, Tryz.ntmps86
   go_wp2_with fail
   go_loopw [5] (fun v wr => ∃ (i : Nat), i ≤ L ∧ v = .int .i64 (i : Int) ∧ Hid (findF (l.drop i) x = R ∧ Below w.heap.size w wr)) (fun v _ => L - (intOf v).toNat)
   case atStart => exact ⟨0, Nat.zero_le _, rfl, h0⟩
   case round =>
    clear h0 k0'
    obtain ⟨i, hiL, rfl, hE⟩ := hrel
    obtain ⟨wo, rfl⟩ : ∃ wo : World, wo = wr := ⟨_, rfl⟩
    obtain ⟨hf, hbel⟩ := hE.out
    have c1 := (hbel.cell (p := ⟨b, k + 1, none⟩) HKK.out.2.2.2.2).trans HKK.out.2.1
    have c2 := (hbel.cell (p := ⟨b, k + 2, none⟩) HKK.out.2.2.2.2).trans HKK.out.2.2.1
    have c10 := (hbel.cell (p := ⟨b, k + 10, none⟩) HKK.out.2.2.2.2).trans HKK.out.2.2.2.1
    have HBEL := hI hbel
    have HNO : Hid (∀ nq, R = none → RetRp w S (replF l x N) (.returned (.pointer none)) ((wo.drewN nq))) := (show ∀ _, _ from fun nq hr => ⟨hbel.trans ((below_dn _ _).mono hbel.size), by rw [HRF.out, hr]; rfl⟩)
    by_cases hlt : i < L
    · have hil : i < l.length := by rw [HL.out]; exact hlt
      obtain ⟨bl, ol, rfl, hLP⟩ := HLM.out.at hil
      have hLP' := hLP.below HS.out hbel
      have step := findF_drop hil x
      rw [hf] at step
      have HLP := hI hLP
      generalize l[i] = f at *
      obtain ⟨Ap, cp, x0, x1, x2, x3, x4, x5, x6, A2, c2', hns, htb, l0, l1, l2, _⟩ := hLP'.cells
      have hnl : f.2.1.length ≤ cp := by
       obtain ⟨_, _, e, h, _⟩ := hns
       injection e with e1 e2 e3
       omega
      unfold eqN at step
      clear hE hf hbel hLP hLP' hns htb hil
      cases h1 : (f.1.1.toList == x.1.toList) with
      | false =>
       rw [h1] at step
       have HST : Hid (findF (l.drop (i + 1)) x = R) := (show findF (l.drop (i + 1)) x = R from by rw [step]; simp)
       clear step
       go_wp2_with fail
       go_quiet (fail)
       go_wp2
       go_roundw
       case rel => exact ⟨i + 1, by omega, by go_num, ⟨HST.out, HBEL.out.trans ((below_dn _ _).mono HBEL.out.size)⟩⟩
       case measure => simp [intOf]; omega
      | true =>
       cases h2 : (f.1.2.toList == x.2.toList) with
       | false =>
        rw [h1, h2] at step
        have HST : Hid (findF (l.drop (i + 1)) x = R) := (show findF (l.drop (i + 1)) x = R from by rw [step]; simp)
        clear step
        go_wp2_with fail
        go_quiet (fail)
        go_wp2
        go_roundw
        case rel => exact ⟨i + 1, by omega, by go_num, ⟨HST.out, HBEL.out.trans ((below_dn _ _).mono HBEL.out.size)⟩⟩
        case measure => simp [intOf]; omega
       | true =>
        rw [h1, h2] at step
        have hR : R = some f := by rw [step]; simp
        subst hR
        clear step
        have hiLn : ((i : Int) == (L : Int)) = false := by rw [beq_eq_false_iff_ne]; omega
        go_wp2_with fail
        go_quiet (fail)
        change (wo.drewN nq).cell? _ = _ at c1 c2 c10 l0 l1 l2
        have HBn : Hid (Below w.heap.size w (wo.drewN nq)) := HBEL.out.trans ((below_dn _ _).mono HBEL.out.size)
        clear HBEL HNO
        generalize wo.drewN nq = wn at *
        by_cases hNN : f.2.1.length = N
        · have hne : ((f.2.1.length : Int) != (N : Int)) = false := by rw [bne_eq_false_iff_eq]; omega
          have HRR : Hid (replF l x N = some f) := (show _ = _ by rw [HRF.out]; exact if_pos hNN)
          generalize f.2.1.length = pn at *
          go_wp2_with fail
          go_quiet (fail)
          have HBq : Hid (Below w.heap.size w (wn.drewN nq)) := HBn.out.trans ((below_dn _ _).mono HBn.out.size)
          generalize wn.drewN nq = wq at *
          go_wp2_with fail
          go_ret
          exact (show RetRp _ _ _ _ _ by rw [HRR.out]; exact ⟨HBq.out, _, _, rfl, HLP.out⟩)
        · have hne : ((f.2.1.length : Int) != (N : Int)) = true := by rw [bne_iff_ne]; omega
          have HRR : Hid (replF l x N = none) := (show _ = _ by rw [HRF.out]; exact if_neg hNN)
          generalize f.2.1.length = pn at *
          go_wp2_with fail
          go_quiet (fail)
          have HBq : Hid (Below w.heap.size w (wn.drewN nq)) := HBn.out.trans ((below_dn _ _).mono HBn.out.size)
          generalize wn.drewN nq = wq at *
          go_wp2_with fail
          go_ret
          exact (show RetRp _ _ _ _ _ by rw [HRR.out]; exact ⟨HBq.out, rfl⟩)
    · have hiL2 : i = L := by omega
      have hn2 : ¬ (i : Int) < L := by omega
      have hR : R = none := by
       rw [← hf, hiL2, ← HL.out, List.drop_length]; rfl
      have HRR : Hid (replF l x N = none) := (show _ = _ by rw [HRF.out, hR]; rfl)
      have hie : ((i : Int) == (L : Int)) = true := by rw [beq_iff_eq]; omega
      clear hE hf hbel HNO hR
      go_wp2_with fail
      go_quiet (fail)
      have HBn : Hid (Below w.heap.size w (wo.drewN nq)) := HBEL.out.trans ((below_dn _ _).mono HBEL.out.size)
      generalize wo.drewN nq = wn at *
      go_wp2_with fail
      go_quiet (fail)
      have HBq : Hid (Below w.heap.size w (wn.drewN nq)) := HBn.out.trans ((below_dn _ _).mono HBn.out.size)
      generalize wn.drewN nq = wq at *
      go_wp2_with fail
      go_ret
      exact (show RetRp _ _ _ _ _ by rw [HRR.out]; exact ⟨HBq.out, rfl⟩)
 · have hkn : (t.kd != 3) = true := by rw [bne_iff_ne]; exact hk
   have hR : replO l t = none := by
    cases t with
    | var s => rfl
    | con o => rfl
    | app s l => exact absurd rfl hk
   rw [hR]
   generalize t.kd = kd at *
   clear hP har
   go_enter Tryz.func86, Tryz.ntmps86
   go_wp2_with fail
   go_ret
   exact ⟨Below.refl _ _, rfl⟩
theorem arr12' (a b c : Value) : #[a] ++ #[b, c] = #[a, b, c] := rfl
theorem inst_eq (l : List Lm) (t : Tm) : instT l t = (match replO l t with
 | some f => subT (bindF f.2.1 (ptM (instT l) t).args) f.2.2
 | none => ptM (instT l) t) ∧ chI l t = ((replO l t).isSome || chM (chI l) t) := by
 cases t with
 | var s => exact ⟨by unfold instT ptM; rfl, by unfold chI chM; rfl⟩
 | con o => exact ⟨by unfold instT ptM; rfl, by unfold chI chM; rfl⟩
 | app s ts =>
  have e : replO l (.app s ts) = replF l s ts.length := rfl
  rw [e]
  refine ⟨?_, by unfold chI chM; rw [chIs_any]⟩
  unfold instT
  rw [instTs_map]
  cases replF l s ts.length <;> rfl
theorem replO_len {l : List Lm} {t : Tm} {f : Lm} (h : replO l t = some f) : f ∈ l ∧ f.2.1.length = t.args.length := by
 cases t with
 | var s => cases h
 | con o => cases h
 | app s ts =>
  have e : replO l (.app s ts) = okF ts.length (findF l s) := replF_eq _ _ _
  rw [e] at h
  have hm : ∀ (l : List Lm) (f : Lm), findF l s = some f → f ∈ l := by
   intro l
   induction l with
   | nil => intro f h; cases h
   | cons a r ih =>
    intro f h
    unfold findF at h
    split at h
    · injection h with h; rw [h]; simp
    · exact List.mem_cons_of_mem _ (ih f h)
  cases hf : findF l s with
  | none => rw [hf] at h; cases h
  | some g =>
   rw [hf] at h
   have h' : (if g.2.1.length = ts.length then some g else none) = some f := h
   by_cases hl : g.2.1.length = ts.length
   · rw [if_pos hl] at h'
     injection h' with h'
     subst h'
     exact ⟨hm l _ hf, hl⟩
   · rw [if_neg hl] at h'; cases h'
theorem ptM_args (ed : Tm → Tm) (t : Tm) : (ptM ed t).args.length = t.args.length := by
 cases t with
 | var s => rfl
 | con o => rfl
 | app s l => show (l.map ed).length = l.length; simp
structure InsC (Y : World) (S : Nat → Prop) (ge Be Bl : Nat) (l : List Lm) (lv : Value) : Prop where
 ed : EdAt Y ge 85 #[.pointer (some ⟨Be, 0, none⟩), .pointer (some ⟨Bl, 0, none⟩)]
 ce : Y.cell? ⟨Be, 0, none⟩ = some (.pointer (some ⟨ge, 0, none⟩))
 cl : Y.cell? ⟨Bl, 0, none⟩ = some lv
 hl : LmsV Y S l lv
 hS : In S Y
theorem InsC.keep {Y Y' : World} {S : Nat → Prop} {ge Be Bl : Nat} {l : List Lm} {lv : Value} (h : InsC Y S ge Be Bl l lv) (hb : Below Y.heap.size Y Y') : InsC Y' S ge Be Bl l lv :=
 ⟨h.ed.keep hb, (hb.cell (p := ⟨Be, 0, none⟩) (World.block_lt_of_cell? Y _ h.ce)).trans h.ce, (hb.cell (p := ⟨Bl, 0, none⟩) (World.block_lt_of_cell? Y _ h.cl)).trans h.cl, h.hl.below h.hS hb, h.hS.later hb.size⟩
def LAv (w0 : World) (S : Nat → Prop) (s : List (Nm × Tm)) : Lv := fun v _ _ w => w0.heap.size ≤ w.heap.size ∧ AsV w (Upto w0 w S) s v
theorem mLAv {w0 : World} {S : Nat → Prop} (hS : In S w0) (s : List (Nm × Tm)) : Mon (LAv w0 S s) := fun _ _ _ _ _ ⟨h0, h⟩ _ hb => ⟨Nat.le_trans h0 hb.size, h.keep (fun b hb' => upto_more hb.size b hb') (fun b hb' => hb.block b (upto_lt hS h0 b hb'))⟩
theorem instOne (l : List Lm) (lv : Value) (hbn : ∀ f ∈ l, f.2.2.nodes ≤ 3000) (hll : l.length ≤ 10000) (Be Bl ge : Nat) (S : Nat → Prop) (t : Tm) (htn : t.nodes ≤ 3000) (W : World) (C : InsC W S ge Be Bl l lv) (b k : Nat) (cs : List Value) (hQ : TmQ W S t b k cs)
 (hp : ∀ W', Below W.heap.size W W' → Calls Tryz.prog 77 #[.pointer (some ⟨ge, 0, none⟩), .pointer (some ⟨b, k, none⟩)] W' (RetTB W' S (ptM (instT l) t) (chM (chI l) t))) :
 Calls Tryz.prog 85 #[.pointer (some ⟨b, k, none⟩), .pointer (some ⟨Be, 0, none⟩), .pointer (some ⟨Bl, 0, none⟩)] W (RetTB W S (instT l t) (chI l t)) := by
 obtain ⟨hi1, hi2⟩ := inst_eq l t
 rw [hi2]
 obtain ⟨Z, hZ⟩ : ∃ Z, instT l t = Z := ⟨_, rfl⟩
 rw [hZ] at hi1 ⊢
 have HXL := ptM_args (instT l) t
 obtain ⟨X, hX⟩ : ∃ X, ptM (instT l) t = X := ⟨_, rfl⟩
 obtain ⟨r, hr⟩ : ∃ r, chM (chI l) t = r := ⟨_, rfl⟩
 rw [hX, hr] at hp
 rw [hX] at hi1 HXL
 rw [hr]
 obtain ⟨R, hR⟩ : ∃ R, replO l t = R := ⟨_, rfl⟩
 rw [hR] at hi1 ⊢
 have HR := hI hR
 have HZ := hI hi1
 have HXLN := hI HXL
 have HTN := hI htn
 have HBN := hI hbn
 clear hX hr hR hi1 hi2 hZ HXL htn hbn
 have hA := below_alT W (.cells #[.int .i64 0, .string ⟨#[]⟩, .string ⟨#[]⟩, .int .i64 0, .string ⟨#[]⟩, .string ⟨#[]⟩, .string ⟨#[]⟩, .string ⟨#[]⟩, .string ⟨#[]⟩, .slice none 0 0, .slice none 0 0] 35)
 have B4 : Hid (TB (W.alloc (.cells #[.int .i64 0, .string ⟨#[]⟩, .string ⟨#[]⟩, .int .i64 0, .string ⟨#[]⟩, .string ⟨#[]⟩, .string ⟨#[]⟩, .string ⟨#[]⟩, .string ⟨#[]⟩, .slice none 0 0, .slice none 0 0] 35)) W.heap.size zT) := heap_alloc_new W _
 have HC := hI (C.keep hA)
 have HQ2 := hI (hQ.below C.hS hA)
 have HP : Hid (∀ W', Below (W.alloc (.cells #[.int .i64 0, .string ⟨#[]⟩, .string ⟨#[]⟩, .int .i64 0, .string ⟨#[]⟩, .string ⟨#[]⟩, .string ⟨#[]⟩, .string ⟨#[]⟩, .string ⟨#[]⟩, .slice none 0 0, .slice none 0 0] 35)).heap.size (W.alloc (.cells #[.int .i64 0, .string ⟨#[]⟩, .string ⟨#[]⟩, .int .i64 0, .string ⟨#[]⟩, .string ⟨#[]⟩, .string ⟨#[]⟩, .string ⟨#[]⟩, .string ⟨#[]⟩, .slice none 0 0, .slice none 0 0] 35)) W' → Calls Tryz.prog 77 #[.pointer (some ⟨ge, 0, none⟩), .pointer (some ⟨b, k, none⟩)] W' (RetTB W' S X r)) := fun W' hw => hp W' (hA.trans (hw.mono hA.size))
 have HA := hI hA
 have HS := hI C.hS
 have ce := HC.out.ce
 clear C hQ hp hA
 go_enter Tryz.func85, Tryz.ntmps85
 go_wp2_with fail
 generalize (W.alloc (.cells #[.int .i64 0, .string ⟨#[]⟩, .string ⟨#[]⟩, .int .i64 0, .string ⟨#[]⟩, .string ⟨#[]⟩, .string ⟨#[]⟩, .string ⟨#[]⟩, .string ⟨#[]⟩, .slice none 0 0, .slice none 0 0] 35)) = Y at *
 refine (HP.out Y (Below.refl _ _)).mono ?_
 rintro e w2 ⟨csx, rfl, hx, hb2⟩
 have OX := hI hx.o11
 have HB2 := hI hb2
 have HY2 : Hid (Below W.heap.size W w2) := HA.out.trans (hb2.mono HA.out.size)
 have T6 : Hid (TB (w2.alloc (.cells #[.int .i64 0, .string ⟨#[]⟩, .string ⟨#[]⟩, .int .i64 0, .string ⟨#[]⟩, .string ⟨#[]⟩, .string ⟨#[]⟩, .string ⟨#[]⟩, .string ⟨#[]⟩, .slice none 0 0, .slice none 0 0] 35)) w2.heap.size zT) := heap_alloc_new w2 _
 have h23 : Below w2.heap.size w2 ((w2.alloc (.cells #[.int .i64 0, .string ⟨#[]⟩, .string ⟨#[]⟩, .int .i64 0, .string ⟨#[]⟩, .string ⟨#[]⟩, .string ⟨#[]⟩, .string ⟨#[]⟩, .string ⟨#[]⟩, .slice none 0 0, .slice none 0 0] 35)).setRow w2.heap.size csx.toArray) := below_setRowO (below_alT w2 _) (Nat.le_refl _) _
 have N6 : Hid (TB ((w2.alloc (.cells #[.int .i64 0, .string ⟨#[]⟩, .string ⟨#[]⟩, .int .i64 0, .string ⟨#[]⟩, .string ⟨#[]⟩, .string ⟨#[]⟩, .string ⟨#[]⟩, .string ⟨#[]⟩, .slice none 0 0, .slice none 0 0] 35)).setRow w2.heap.size csx.toArray) w2.heap.size csx) := T6.out.set _
 have H23 := hI h23
 have hY3 : Below Y.heap.size Y ((w2.alloc (.cells #[.int .i64 0, .string ⟨#[]⟩, .string ⟨#[]⟩, .int .i64 0, .string ⟨#[]⟩, .string ⟨#[]⟩, .string ⟨#[]⟩, .string ⟨#[]⟩, .string ⟨#[]⟩, .slice none 0 0, .slice none 0 0] 35)).setRow w2.heap.size csx.toArray) := chain2 hb2 h23 (Nat.le_refl _)
 have HY3 := hI hY3
 have HC3 := hI (HC.out.keep hY3)
 have HB43 := hI (B4.out.keep hY3)
 have HQ3 := hI (HQ2.out.below HC.out.hS hY3)
 have hSY : In S Y := HC.out.hS
 have HX3 : Hid (TmAt ((w2.alloc (.cells #[.int .i64 0, .string ⟨#[]⟩, .string ⟨#[]⟩, .int .i64 0, .string ⟨#[]⟩, .string ⟨#[]⟩, .string ⟨#[]⟩, .string ⟨#[]⟩, .string ⟨#[]⟩, .slice none 0 0, .slice none 0 0] 35)).setRow w2.heap.size csx.toArray) (Upto W ((w2.alloc (.cells #[.int .i64 0, .string ⟨#[]⟩, .string ⟨#[]⟩, .int .i64 0, .string ⟨#[]⟩, .string ⟨#[]⟩, .string ⟨#[]⟩, .string ⟨#[]⟩, .string ⟨#[]⟩, .slice none 0 0, .slice none 0 0] 35)).setRow w2.heap.size csx.toArray) S) X csx) := ((hx.below (upto_lt hSY hb2.size) h23).more (fun b hb => up3 HA.out (Below.refl _ _) b hb)).more (fun b hb => upto_more h23.size b hb)
 clear hx hb2 h23 hY3 HP HC B4 HQ2 ce hSY HB2
 unfold vTm
 go_upto_region 2 with ((with_reducible refine storeTb (cs := csx) (.tmp 6) (.tmp 13) ?_ ?_ ?_ ?_ T6.out ?_ ?_ ?_ ?_); rfl; rfl; rfl; rfl; rfl; exact OX.out.1; exact OX.out.2)
 clear T6
 generalize (w2.alloc (.cells #[.int .i64 0, .string ⟨#[]⟩, .string ⟨#[]⟩, .int .i64 0, .string ⟨#[]⟩, .string ⟨#[]⟩, .string ⟨#[]⟩, .string ⟨#[]⟩, .string ⟨#[]⟩, .slice none 0 0, .slice none 0 0] 35)).setRow w2.heap.size csx.toArray = V3 at *
 generalize w2.heap.size = g6 at *
 have RPC := hI (replacementP l lv t b k cs V3 S HC3.out.hS HC3.out.hl HQ3.out hll)
 have cl := HC3.out.cl
 rw [HR.out] at RPC
 go_wp2_with fail
 refine RPC.out.mono ?_
 rintro e w4 ⟨hb4, hr⟩
 have HY4 : Hid (Below W.heap.size W w4) := HA.out.trans ((chain2 HY3.out hb4 (Nat.le_refl _)).mono HA.out.size)
 have HB44 := hI (HB43.out.keep hb4)
 have H6 := hI (N6.out.keep hb4)
 have HSV : Hid (In S V3) := HC3.out.hS
 have HX4 : Hid (TmAt w4 (Upto W w4 S) X csx) := (HX3.out.below (upto_lt HS.out (HA.out.trans (HY3.out.mono HA.out.size)).size) hb4).more (fun b hb => upto_more hb4.size b hb)
 cases R with
 | none =>
  have hr' : e = .returned (.pointer none) := hr
  subst hr'
  have e1 : Z = X := HZ.out
  subst e1
  have HXB := hI (TmAt.boxed HX4.out HB44.out.nb csx.toArray)
  clear hb4 hr cl RPC
  go_wp2_with (first | ((with_reducible refine loadTb (cs := csx) (.tmp 6) ?_ ?_ ?_ H6.out ?_ ?_); rfl; rfl; rfl; exact OX.out.1) | ((with_reducible refine storeTb (cs := csx) (.tmp 4) (.tmp 32) ?_ ?_ ?_ ?_ HB44.out ?_ ?_ ?_ ?_); rfl; rfl; rfl; rfl; rfl; exact OX.out.1; exact OX.out.2))
  exact retTbx rfl rfl rfl (HB44.out.set _) OX.out.1 (RetTB.mk (below_setRowO HY4.out (Nat.le_refl _) _) HXB.out)
 | some f =>
  obtain ⟨bl, ol, rfl, hLP⟩ := hr
  obtain ⟨hfm, hfl⟩ := replO_len HR.out
  have hLP4 := hLP.below HSV.out hb4
  have hbl : bl < w4.heap.size := Nat.lt_of_lt_of_le (HSV.out bl hLP.1.1) hb4.size
  obtain ⟨Ap, cp, x0, x1, x2, x3, x4, x5, x6, A3, c3, hns, htb, l0, l1, l2, k0, k1, k2, k3, k4, k5, k6, k7, k8, k9, k10⟩ := hLP4.cells
  have HBL := hI hbl
  have KP := hI l2
  have K0 := hI k0
  have K1 := hI k1
  have K2 := hI k2
  have K3 := hI k3
  have K4 := hI k4
  have K5 := hI k5
  have K6 := hI k6
  have K7 := hI k7
  have K8 := hI k8
  have K9 := hI k9
  have K10 := hI k10
  obtain ⟨Ax, cx, ex⟩ : ∃ Ax cx, csx[10]? = some (.slice Ax X.args.length cx) := by
   obtain ⟨y0, y1, y2, y3, y4, y5, y6, Ax, cx, e, _, _⟩ := HX4.out.eleven
   exact ⟨Ax, cx, by rw [e]; rfl⟩
  obtain ⟨y0, y1, y2, y3, y4, y5, y6, Ay, cy, ecx, _, hargs⟩ := HX4.out.eleven
  obtain ⟨rfl, rfl⟩ : Ax = Ay ∧ cx = cy := by
   rw [ecx] at ex
   have : some (Value.slice Ay X.args.length cy) = some (Value.slice Ax X.args.length cx) := ex
   injection this with this
   injection this with h1 h2 h3
   exact ⟨h1.symm, h3.symm⟩
  subst ecx
  have HFL : Hid (f.2.1.length = X.args.length) := (show _ = _ by rw [hfl, HXLN.out])
  have hXn : X.args.length ≤ 3000 := by
   have h1 := t.nodes_args
   have h2 := Tm.nodesL_len t.args
   have h3 := HTN.out
   rw [HXLN.out]; omega
  obtain ⟨V, hV⟩ : ∃ V, w4 = V := ⟨_, rfl⟩
  subst hV
  obtain ⟨S2, hS2⟩ : ∃ S2, Upto W w4 S = S2 := ⟨_, rfl⟩
  have HS2 : Hid (In S2 w4) := (show In _ _ from by rw [← hS2]; exact fun b hb => upto_lt HS.out HY4.out.size b hb)
  have hNS : NsV w4 S2 f.2.1 (.slice Ap f.2.1.length cp) := by rw [← hS2]; exact hns.more (fun b hb => .inl hb)
  have hTB : TmAt w4 S2 f.2.2 [.int .i64 f.2.2.kd, .string f.2.2.nm.1, .string f.2.2.nm.2, x0, x1, x2, x3, x4, x5, x6, .slice A3 f.2.2.args.length c3] := by rw [← hS2]; exact htb.more (fun b hb => .inl hb)
  have hAR : ArgsAt w4 S2 X.args Ax cx := by rw [← hS2]; exact hargs
  have ASC : Hid (∀ w9, Below w4.heap.size w4 w9 → Calls Tryz.prog 87 #[.slice Ap f.2.1.length cp, .slice Ax X.args.length cx] w9 (RetAs w9 S2 (bindF f.2.1 X.args))) := fun w9 hb => assignmentP f.2.1 X.args _ Ax cx w9 S2 (HS2.out.later hb.size) (hNS.below HS2.out hb) (hAR.below HS2.out hb) HFL.out (by have := HFL.out; omega)
  have SUC : Hid (∀ w9, Below w4.heap.size w4 w9 → ∀ va, AsV w9 (Upto w4 w9 S2) (bindF f.2.1 X.args) va → Calls Tryz.prog 33 #[.agg #[.int .i64 f.2.2.kd, .string f.2.2.nm.1, .string f.2.2.nm.2, x0, x1, x2, x3, x4, x5, x6, .slice A3 f.2.2.args.length c3], va] w9 (RetT w9 (Upto w4 w9 S2) (subT (bindF f.2.1 X.args) f.2.2))) := fun w9 hb va hva => substituteP (bindF f.2.1 X.args) va f.2.2 _ w9 (Upto w4 w9 S2) (HS2.out.upto hb.size) ((hTB.below HS2.out hb).more (fun b hb => .inl hb)) hva (HBN.out f hfm) (by rw [bindF_len _ _ HFL.out]; have := HFL.out; omega)
  have hZ : Z = subT (bindF f.2.1 X.args) f.2.2 := HZ.out
  have HZZ := hI hZ
  have HS22 := hI hS2
  obtain ⟨V, hV⟩ : ∃ V, w4 = V := ⟨_, rfl⟩
  subst hV
  clear hb4 hLP hLP4 hfm hfl hbl l0 l1 l2 k0 k1 k2 k3 k4 k5 k6 k7 k8 k9 k10 hns htb hargs hNS hTB hAR hS2 hZ ex cl RPC hXn
  go_wp2_with fail
  refine wp_region_grow (l := _) 12 (by kernel_rfl) (by kernel_rfl) (fun i => [20, 21, 22, 23, 24, 25, 26, 27, 28, 29, 30, 31].getD i 0) (LR [LV (.pointer (some ⟨bl, ol, none⟩)), LV (.pointer (some ⟨bl, ol, none⟩)), LV (.pointer (some ⟨bl, ol + 3, none⟩)), LV (.agg #[.int .i64 f.2.2.kd, .string f.2.2.nm.1, .string f.2.2.nm.2, x0, x1, x2, x3, x4, x5, x6, .slice A3 f.2.2.args.length c3]), LV (.pointer (some ⟨bl, ol, none⟩)), LV (.pointer (some ⟨bl, ol, none⟩)), LV (.pointer (some ⟨bl, ol + 2, none⟩)), LV (.slice Ap f.2.1.length cp), LV (.pointer (some ⟨g6, 10, none⟩)), LV (.slice Ax X.args.length cx), LAv w4 S2 (bindF f.2.1 X.args), LTm w4 S2 (subT (bindF f.2.1 X.args) f.2.2)]) (LR_mono ⟨mLV _, mLV _, mLV _, mLV _, mLV _, mLV _, mLV _, mLV _, mLV _, mLV _, mLAv HS2.out _, mLTm HS2.out _, trivial⟩) (by
   intro i j hi hj h
   exact inj_getD [20, 21, 22, 23, 24, 25, 26, 27, 28, 29, 30, 31] (by decide) i j hi hj h) (by
   intro i hi
   exact lt_getD 34 [20, 21, 22, 23, 24, 25, 26, 27, 28, 29, 30, 31] (by decide) i hi) ?step ?done
  case step =>
   intro ii hii a w9 v lo hi' hoth hb hw
   have sl8 : a.tmps[8]? = some (.pointer (some ⟨bl, ol, none⟩)) := (hoth 8 (fun j hj => ne_getD 8 _ (by decide) j hj)).trans rfl
   have sl6 : a.tmps[6]? = some (.pointer (some ⟨g6, 0, none⟩)) := (hoth 6 (fun j hj => ne_getD 6 _ (by decide) j hj)).trans rfl
   match ii, hii with
   | 0, _ =>
    exact gw_move rfl (wanted_plain rfl) 8 _ rfl sl8 ⟨_, rfl, Below.refl _ _, rfl⟩
   | 1, _ =>
    obtain ⟨s0, r0, _⟩ := hw 0 (by omega) (by kernel_rfl)
    have e0 : v 0 = .pointer (some ⟨bl, ol, none⟩) := r0
    rw [e0] at s0
    replace s0 : a.tmps[20]? = some (.pointer (some ⟨bl, ol, none⟩)) := s0
    refine wpOp_step rfl fun K' hK' => ?_
    rw [if_pos (wanted_plain rfl)]
    unfold Oper.wp
    simp only [execOp]
    go_simp
    exact hK' _ _ ⟨_, rfl, Below.refl _ _, rfl⟩
   | 2, _ =>
    obtain ⟨s0, r0, _⟩ := hw 1 (by omega) (by kernel_rfl)
    have e0 : v 1 = .pointer (some ⟨bl, ol, none⟩) := r0
    rw [e0] at s0
    replace s0 : a.tmps[21]? = some (.pointer (some ⟨bl, ol, none⟩)) := s0
    refine wpOp_step rfl fun K' hK' => ?_
    rw [if_pos (wanted_plain rfl)]
    unfold Oper.wp
    simp only [execOp]
    go_simp
    exact hK' _ _ ⟨_, rfl, Below.refl _ _, rfl⟩
   | 3, _ =>
    obtain ⟨s0, r0, _⟩ := hw 2 (by omega) (by kernel_rfl)
    have e0 : v 2 = .pointer (some ⟨bl, ol + 3, none⟩) := r0
    rw [e0] at s0
    replace s0 : a.tmps[22]? = some (.pointer (some ⟨bl, ol + 3, none⟩)) := s0
    have ck0 := (hb.cell (p := ⟨bl, ol + 3, none⟩) HBL.out).trans K0.out
    have ck1 := (hb.cell (p := ⟨bl, ol + 4, none⟩) HBL.out).trans K1.out
    have ck2 := (hb.cell (p := ⟨bl, ol + 5, none⟩) HBL.out).trans K2.out
    have ck3 := (hb.cell (p := ⟨bl, ol + 6, none⟩) HBL.out).trans K3.out
    have ck4 := (hb.cell (p := ⟨bl, ol + 7, none⟩) HBL.out).trans K4.out
    have ck5 := (hb.cell (p := ⟨bl, ol + 8, none⟩) HBL.out).trans K5.out
    have ck6 := (hb.cell (p := ⟨bl, ol + 9, none⟩) HBL.out).trans K6.out
    have ck7 := (hb.cell (p := ⟨bl, ol + 10, none⟩) HBL.out).trans K7.out
    have ck8 := (hb.cell (p := ⟨bl, ol + 11, none⟩) HBL.out).trans K8.out
    have ck9 := (hb.cell (p := ⟨bl, ol + 12, none⟩) HBL.out).trans K9.out
    have ck10 := (hb.cell (p := ⟨bl, ol + 13, none⟩) HBL.out).trans K10.out
    refine wpOp_step rfl fun K' hK' => ?_
    rw [if_pos (wanted_plain rfl)]
    unfold Oper.wp
    simp only [execOp]
    go_simp
    exact hK' _ _ ⟨_, rfl, Below.refl _ _, rfl⟩
   | 4, _ =>
    exact gw_move rfl (wanted_plain rfl) 8 _ rfl sl8 ⟨_, rfl, Below.refl _ _, rfl⟩
   | 5, _ =>
    obtain ⟨s0, r0, _⟩ := hw 4 (by omega) (by kernel_rfl)
    have e0 : v 4 = .pointer (some ⟨bl, ol, none⟩) := r0
    rw [e0] at s0
    replace s0 : a.tmps[24]? = some (.pointer (some ⟨bl, ol, none⟩)) := s0
    refine wpOp_step rfl fun K' hK' => ?_
    rw [if_pos (wanted_plain rfl)]
    unfold Oper.wp
    simp only [execOp]
    go_simp
    exact hK' _ _ ⟨_, rfl, Below.refl _ _, rfl⟩
   | 6, _ =>
    obtain ⟨s0, r0, _⟩ := hw 5 (by omega) (by kernel_rfl)
    have e0 : v 5 = .pointer (some ⟨bl, ol, none⟩) := r0
    rw [e0] at s0
    replace s0 : a.tmps[25]? = some (.pointer (some ⟨bl, ol, none⟩)) := s0
    refine wpOp_step rfl fun K' hK' => ?_
    rw [if_pos (wanted_plain rfl)]
    unfold Oper.wp
    simp only [execOp]
    go_simp
    exact hK' _ _ ⟨_, rfl, Below.refl _ _, rfl⟩
   | 7, _ =>
    obtain ⟨s0, r0, _⟩ := hw 6 (by omega) (by kernel_rfl)
    have e0 : v 6 = .pointer (some ⟨bl, ol + 2, none⟩) := r0
    rw [e0] at s0
    replace s0 : a.tmps[26]? = some (.pointer (some ⟨bl, ol + 2, none⟩)) := s0
    have cc := (hb.cell (p := ⟨bl, ol + 2, none⟩) HBL.out).trans KP.out
    refine wpOp_step rfl fun K' hK' => ?_
    rw [if_pos (wanted_plain rfl)]
    unfold Oper.wp
    simp only [execOp]
    go_simp
    exact hK' _ _ ⟨_, rfl, Below.refl _ _, rfl⟩
   | 8, _ =>
    refine wpOp_step rfl fun K' hK' => ?_
    rw [if_pos (wanted_plain rfl)]
    unfold Oper.wp
    simp only [execOp]
    go_simp
    exact hK' _ _ ⟨_, rfl, Below.refl _ _, rfl⟩
   | 9, _ =>
    obtain ⟨s0, r0, _⟩ := hw 8 (by omega) (by kernel_rfl)
    have e0 : v 8 = .pointer (some ⟨g6, 10, none⟩) := r0
    rw [e0] at s0
    replace s0 : a.tmps[28]? = some (.pointer (some ⟨g6, 10, none⟩)) := s0
    have cc : w9.cell? ⟨g6, 10, none⟩ = some (.slice Ax X.args.length cx) := TB.cell (H6.out.keep hb) 10 _ rfl
    refine wpOp_step rfl fun K' hK' => ?_
    rw [if_pos (wanted_plain rfl)]
    unfold Oper.wp
    simp only [execOp]
    go_simp
    exact hK' _ _ ⟨_, rfl, Below.refl _ _, rfl⟩
   | 10, _ =>
    obtain ⟨s0, r0, _⟩ := hw 7 (by omega) (by kernel_rfl)
    have e0 : v 7 = .slice Ap f.2.1.length cp := r0
    rw [e0] at s0
    replace s0 : a.tmps[27]? = some (.slice Ap f.2.1.length cp) := s0
    obtain ⟨s1, r1, _⟩ := hw 9 (by omega) (by kernel_rfl)
    have e1 : v 9 = .slice Ax X.args.length cx := r1
    rw [e1] at s1
    replace s1 : a.tmps[29]? = some (.slice Ax X.args.length cx) := s1
    refine gw_tt rfl (wanted_plain rfl) 87 27 29 _ _ _ rfl (fun v u w => by go_simp) s0 s1 ?_
    with_reducible refine (ASC.out w9 hb).mono ?_
    rintro e w3 ⟨v3, rfl, h3, hb3⟩
    exact ⟨_, rfl, _, rfl, hb3, Nat.le_trans hb.size hb3.size, h3.more (fun b hb0 => up3 (Below.refl _ w4) hb b hb0)⟩
   | 11, _ =>
    obtain ⟨s0, r0, _⟩ := hw 3 (by omega) (by kernel_rfl)
    have e0 : v 3 = .agg #[.int .i64 f.2.2.kd, .string f.2.2.nm.1, .string f.2.2.nm.2, x0, x1, x2, x3, x4, x5, x6, .slice A3 f.2.2.args.length c3] := r0
    rw [e0] at s0
    replace s0 : a.tmps[23]? = some (.agg #[.int .i64 f.2.2.kd, .string f.2.2.nm.1, .string f.2.2.nm.2, x0, x1, x2, x3, x4, x5, x6, .slice A3 f.2.2.args.length c3]) := s0
    obtain ⟨s1, r1, b1⟩ := hw 10 (by omega) (by kernel_rfl)
    obtain ⟨hz1, ha1⟩ := r1
    obtain ⟨va1, e1⟩ : ∃ x, v 10 = x := ⟨_, rfl⟩
    rw [e1] at ha1
    rw [e1] at s1
    refine gw_tt rfl (wanted_plain rfl) 33 23 30 _ _ _ rfl (fun v u w => by go_simp) s0 s1 ?_
    with_reducible refine (SUC.out w9 hb _ ha1).mono ?_
    rintro e w3 ⟨cs3, rfl, h3, hb3⟩
    exact ⟨_, rfl, _, rfl, hb3, Nat.le_trans hb.size hb3.size, cs3, rfl, h3.more (fun b hb0 => upto_two hb.size hb3.size b hb0)⟩
  case done =>
   intro a w9 v lo hi' hdef hsz hoth hb hj hap
   obtain ⟨_, ⟨hz11, cs4, hv11, h4⟩, hlo11, hhi11⟩ := hj 11 (by omega)
   have ha := eq_puts hdef hsz hoth (fun i hi => (hj i hi).1)
   subst ha
   clear hj hoth hdef hsz hap
   simp only [puts, List.getD_cons_zero, List.getD_cons_succ, hv11]
   generalize v 0 = v0
   generalize v 1 = v1
   generalize v 2 = v2
   generalize v 3 = v3
   generalize v 4 = v4
   generalize v 5 = v5
   generalize v 6 = v6
   generalize v 7 = v7
   generalize v 8 = v8
   generalize v 9 = v9
   generalize v 10 = v10
   clear hv11
   simp only [Act.put, List.setIfInBounds_toArray, List.set_cons_zero, List.set_cons_succ]
   show wpList _ _ _ [_, _] _ _
   have O4 := hI h4.o11
   have HB4 := hI (HB44.out.keep hb)
   have HY9 : Hid (Below W.heap.size W w9) := HY4.out.trans (hb.mono HY4.out.size)
   have H4 : Hid (TmAt w9 (Upto W w9 S) Z cs4) := (show TmAt _ _ _ _ by
    rw [HZZ.out]
    refine h4.more (fun b hb0 => ?_)
    rw [← HS22.out] at hb0
    exact upto_two HY4.out.size hb.size b hb0)
   have HXB := hI (TmAt.boxed H4.out HB4.out.nb cs4.toArray)
   clear h4 hb ASC SUC
   go_wp2_with ((with_reducible refine storeTb (cs := cs4) (.tmp 4) (.tmp 31) ?_ ?_ ?_ ?_ HB4.out ?_ ?_ ?_ ?_); rfl; rfl; rfl; rfl; rfl; exact O4.out.1; exact O4.out.2)
   exact retTbx rfl rfl rfl (HB4.out.set _) O4.out.1 (RetTB.mk (below_setRowO HY9.out (Nat.le_refl _) _) HXB.out)
theorem ins_hcf (Be Bl : Nat) (v : Value) (W : World) : (callFunc 85 (#[v] ++ #[.pointer (some ⟨Be, 0, none⟩), .pointer (some ⟨Bl, 0, none⟩)])).run Tryz.prog W = .ok (.enter 85 (#[v] ++ #[.pointer (some ⟨Be, 0, none⟩), .pointer (some ⟨Bl, 0, none⟩)])) W := by
 rw [arr12']
 go_simp
theorem insC (l : List Lm) (lv : Value) (hbn : ∀ f ∈ l, f.2.2.nodes ≤ 3000) (hll : l.length ≤ 10000) (Be Bl ge : Nat) (S : Nat → Prop) : ∀ (t : Tm) (W : World) (b k : Nat) (cs : List Value), InsC W S ge Be Bl l lv → t.nodes ≤ 3000 → TmQ W S t b k cs →
 Calls Tryz.prog 85 (#[.pointer (some ⟨b, k, none⟩)] ++ #[.pointer (some ⟨Be, 0, none⟩), .pointer (some ⟨Bl, 0, none⟩)]) W (RetTB W S (instT l t) (chI l t)) := by
 intro t
 induction t using Tm.indA with
 | h t ih =>
  intro W b k cs C hn hQ
  rw [arr12']
  refine instOne l lv hbn hll Be Bl ge S t hn W C b k cs hQ fun W' hw => ?_
  exact partsE _ _ (instT l) (chI l) t b k ge cs W' S (C.hS.later hw.size) (C.ed.keep hw) (hQ.below C.hS hw) hn (ins_hcf Be Bl) (fun x hx W2 b2 k2 cs2 hw2 hq2 => ih x hx W2 b2 k2 cs2 ((C.keep hw).keep hw2) (by have := Tm.nodes_mem hx; have := t.nodes_args; omega) hq2) (fun x _ h => inst_same l x h)
theorem instanceP (l : List Lm) (lv : Value) (hbn : ∀ f ∈ l, f.2.2.nodes ≤ 3000) (hll : l.length ≤ 10000) (t : Tm) (cs : List Value) (w : World) (S : Nat → Prop) (hS : In S w) (h : TmAt w S t cs) (hl : LmsV w S l lv) (hn : t.nodes ≤ 3000) :
 Calls Tryz.prog 50 #[vTm cs, lv] w (RetT w S (instT l t)) := by
 have h1 := h
 have hl1 := hl
 obtain ⟨x0, x1, x2, x3, x4, x5, x6, A, c, rfl, _, _⟩ := h1.eleven
 obtain ⟨Al, cl, rfl, _, _⟩ := hl1
 have hA6 : Below w.heap.size w (((((w.alloc (.cells #[.int .i64 t.kd, .string t.nm.1, .string t.nm.2, x0, x1, x2, x3, x4, x5, x6, .slice A t.args.length c] 35)).alloc (.cells #[.slice Al l.length cl] 64)).alloc (.cells #[.int .i64 0, .string ⟨#[]⟩, .string ⟨#[]⟩, .int .i64 0, .string ⟨#[]⟩, .string ⟨#[]⟩, .string ⟨#[]⟩, .string ⟨#[]⟩, .string ⟨#[]⟩, .slice none 0 0, .slice none 0 0] 35)).alloc (.cells #[.nilFunc, .pointer none] 99)).alloc (.cells #[.pointer (some ⟨w.heap.size + 1 + 1 + 1, 0, none⟩)] 95)) := Below.alloc (Below.alloc (Below.alloc (Below.alloc (Below.alloc (Below.refl _ _) (Nat.le_refl _) _) (by simp) _) (by simp <;> omega) _) (by simp <;> omega) _) (by simp <;> omega) _
 have E6 : (((((w.alloc (.cells #[.int .i64 t.kd, .string t.nm.1, .string t.nm.2, x0, x1, x2, x3, x4, x5, x6, .slice A t.args.length c] 35)).alloc (.cells #[.slice Al l.length cl] 64)).alloc (.cells #[.int .i64 0, .string ⟨#[]⟩, .string ⟨#[]⟩, .int .i64 0, .string ⟨#[]⟩, .string ⟨#[]⟩, .string ⟨#[]⟩, .string ⟨#[]⟩, .string ⟨#[]⟩, .slice none 0 0, .slice none 0 0] 35)).alloc (.cells #[.nilFunc, .pointer none] 99)).alloc (.cells #[.pointer (some ⟨w.heap.size + 1 + 1 + 1, 0, none⟩)] 95)).heap[w.heap.size + 1 + 1 + 1]? = some (.cells #[.nilFunc, .pointer none] 99 (0, 0)) := (Below.heap_alloc _ _ _ (by simp <;> omega)).trans (heap_new_at (by simp))
 have f0 : (((((w.alloc (.cells #[.int .i64 t.kd, .string t.nm.1, .string t.nm.2, x0, x1, x2, x3, x4, x5, x6, .slice A t.args.length c] 35)).alloc (.cells #[.slice Al l.length cl] 64)).alloc (.cells #[.int .i64 0, .string ⟨#[]⟩, .string ⟨#[]⟩, .int .i64 0, .string ⟨#[]⟩, .string ⟨#[]⟩, .string ⟨#[]⟩, .string ⟨#[]⟩, .string ⟨#[]⟩, .slice none 0 0, .slice none 0 0] 35)).alloc (.cells #[.nilFunc, .pointer none] 99)).alloc (.cells #[.pointer (some ⟨w.heap.size + 1 + 1 + 1, 0, none⟩)] 95)).frozen? ⟨w.heap.size + 1 + 1 + 1, 0, none⟩ = false := by simp only [World.frozen?, E6]; rfl
 have e0 : (((((w.alloc (.cells #[.int .i64 t.kd, .string t.nm.1, .string t.nm.2, x0, x1, x2, x3, x4, x5, x6, .slice A t.args.length c] 35)).alloc (.cells #[.slice Al l.length cl] 64)).alloc (.cells #[.int .i64 0, .string ⟨#[]⟩, .string ⟨#[]⟩, .int .i64 0, .string ⟨#[]⟩, .string ⟨#[]⟩, .string ⟨#[]⟩, .string ⟨#[]⟩, .string ⟨#[]⟩, .slice none 0 0, .slice none 0 0] 35)).alloc (.cells #[.nilFunc, .pointer none] 99)).alloc (.cells #[.pointer (some ⟨w.heap.size + 1 + 1 + 1, 0, none⟩)] 95)).cell? ⟨w.heap.size + 1 + 1 + 1, 0, none⟩ = some .nilFunc := by rw [cell_of_row _ _ _ _ _ _ E6]; rfl
 have hsz : (((((w.alloc (.cells #[.int .i64 t.kd, .string t.nm.1, .string t.nm.2, x0, x1, x2, x3, x4, x5, x6, .slice A t.args.length c] 35)).alloc (.cells #[.slice Al l.length cl] 64)).alloc (.cells #[.int .i64 0, .string ⟨#[]⟩, .string ⟨#[]⟩, .int .i64 0, .string ⟨#[]⟩, .string ⟨#[]⟩, .string ⟨#[]⟩, .string ⟨#[]⟩, .string ⟨#[]⟩, .slice none 0 0, .slice none 0 0] 35)).alloc (.cells #[.nilFunc, .pointer none] 99)).alloc (.cells #[.pointer (some ⟨w.heap.size + 1 + 1 + 1, 0, none⟩)] 95)).heap.size = w.heap.size + 5 := by simp
 have e7 := setCell_eq_setRow (((((w.alloc (.cells #[.int .i64 t.kd, .string t.nm.1, .string t.nm.2, x0, x1, x2, x3, x4, x5, x6, .slice A t.args.length c] 35)).alloc (.cells #[.slice Al l.length cl] 64)).alloc (.cells #[.int .i64 0, .string ⟨#[]⟩, .string ⟨#[]⟩, .int .i64 0, .string ⟨#[]⟩, .string ⟨#[]⟩, .string ⟨#[]⟩, .string ⟨#[]⟩, .string ⟨#[]⟩, .slice none 0 0, .slice none 0 0] 35)).alloc (.cells #[.nilFunc, .pointer none] 99)).alloc (.cells #[.pointer (some ⟨w.heap.size + 1 + 1 + 1, 0, none⟩)] 95)) (w.heap.size + 1 + 1 + 1) 0 _ 99 (0, 0) (.func (.func 85) #[] #[.pointer (some ⟨w.heap.size + 1 + 1 + 1 + 1, 0, none⟩), .pointer (some ⟨w.heap.size + 1, 0, none⟩)]) E6
 have ho : ∀ q, q ≠ w.heap.size + 1 + 1 + 1 → ((((((w.alloc (.cells #[.int .i64 t.kd, .string t.nm.1, .string t.nm.2, x0, x1, x2, x3, x4, x5, x6, .slice A t.args.length c] 35)).alloc (.cells #[.slice Al l.length cl] 64)).alloc (.cells #[.int .i64 0, .string ⟨#[]⟩, .string ⟨#[]⟩, .int .i64 0, .string ⟨#[]⟩, .string ⟨#[]⟩, .string ⟨#[]⟩, .string ⟨#[]⟩, .string ⟨#[]⟩, .slice none 0 0, .slice none 0 0] 35)).alloc (.cells #[.nilFunc, .pointer none] 99)).alloc (.cells #[.pointer (some ⟨w.heap.size + 1 + 1 + 1, 0, none⟩)] 95)).setCell ⟨w.heap.size + 1 + 1 + 1, 0, none⟩ (.func (.func 85) #[] #[.pointer (some ⟨w.heap.size + 1 + 1 + 1 + 1, 0, none⟩), .pointer (some ⟨w.heap.size + 1, 0, none⟩)])).heap[q]? = (((((w.alloc (.cells #[.int .i64 t.kd, .string t.nm.1, .string t.nm.2, x0, x1, x2, x3, x4, x5, x6, .slice A t.args.length c] 35)).alloc (.cells #[.slice Al l.length cl] 64)).alloc (.cells #[.int .i64 0, .string ⟨#[]⟩, .string ⟨#[]⟩, .int .i64 0, .string ⟨#[]⟩, .string ⟨#[]⟩, .string ⟨#[]⟩, .string ⟨#[]⟩, .string ⟨#[]⟩, .slice none 0 0, .slice none 0 0] 35)).alloc (.cells #[.nilFunc, .pointer none] 99)).alloc (.cells #[.pointer (some ⟨w.heap.size + 1 + 1 + 1, 0, none⟩)] 95)).heap[q]? := fun q hq => by rw [e7]; exact setRow_other _ _ _ _ hq
 have E7 : EdAt ((((((w.alloc (.cells #[.int .i64 t.kd, .string t.nm.1, .string t.nm.2, x0, x1, x2, x3, x4, x5, x6, .slice A t.args.length c] 35)).alloc (.cells #[.slice Al l.length cl] 64)).alloc (.cells #[.int .i64 0, .string ⟨#[]⟩, .string ⟨#[]⟩, .int .i64 0, .string ⟨#[]⟩, .string ⟨#[]⟩, .string ⟨#[]⟩, .string ⟨#[]⟩, .string ⟨#[]⟩, .slice none 0 0, .slice none 0 0] 35)).alloc (.cells #[.nilFunc, .pointer none] 99)).alloc (.cells #[.pointer (some ⟨w.heap.size + 1 + 1 + 1, 0, none⟩)] 95)).setCell ⟨w.heap.size + 1 + 1 + 1, 0, none⟩ (.func (.func 85) #[] #[.pointer (some ⟨w.heap.size + 1 + 1 + 1 + 1, 0, none⟩), .pointer (some ⟨w.heap.size + 1, 0, none⟩)])) (w.heap.size + 1 + 1 + 1) 85 #[.pointer (some ⟨w.heap.size + 1 + 1 + 1 + 1, 0, none⟩), .pointer (some ⟨w.heap.size + 1, 0, none⟩)] := by
  unfold EdAt
  rw [e7]
  exact setRow_heap _ _ _ _ _ _ E6
 have hA7 : Below w.heap.size w ((((((w.alloc (.cells #[.int .i64 t.kd, .string t.nm.1, .string t.nm.2, x0, x1, x2, x3, x4, x5, x6, .slice A t.args.length c] 35)).alloc (.cells #[.slice Al l.length cl] 64)).alloc (.cells #[.int .i64 0, .string ⟨#[]⟩, .string ⟨#[]⟩, .int .i64 0, .string ⟨#[]⟩, .string ⟨#[]⟩, .string ⟨#[]⟩, .string ⟨#[]⟩, .string ⟨#[]⟩, .slice none 0 0, .slice none 0 0] 35)).alloc (.cells #[.nilFunc, .pointer none] 99)).alloc (.cells #[.pointer (some ⟨w.heap.size + 1 + 1 + 1, 0, none⟩)] 95)).setCell ⟨w.heap.size + 1 + 1 + 1, 0, none⟩ (.func (.func 85) #[] #[.pointer (some ⟨w.heap.size + 1 + 1 + 1 + 1, 0, none⟩), .pointer (some ⟨w.heap.size + 1, 0, none⟩)])) := by rw [e7]; exact below_setRowO hA6 (by omega) _
 have T0 : TB ((((((w.alloc (.cells #[.int .i64 t.kd, .string t.nm.1, .string t.nm.2, x0, x1, x2, x3, x4, x5, x6, .slice A t.args.length c] 35)).alloc (.cells #[.slice Al l.length cl] 64)).alloc (.cells #[.int .i64 0, .string ⟨#[]⟩, .string ⟨#[]⟩, .int .i64 0, .string ⟨#[]⟩, .string ⟨#[]⟩, .string ⟨#[]⟩, .string ⟨#[]⟩, .string ⟨#[]⟩, .slice none 0 0, .slice none 0 0] 35)).alloc (.cells #[.nilFunc, .pointer none] 99)).alloc (.cells #[.pointer (some ⟨w.heap.size + 1 + 1 + 1, 0, none⟩)] 95)).setCell ⟨w.heap.size + 1 + 1 + 1, 0, none⟩ (.func (.func 85) #[] #[.pointer (some ⟨w.heap.size + 1 + 1 + 1 + 1, 0, none⟩), .pointer (some ⟨w.heap.size + 1, 0, none⟩)])) w.heap.size [.int .i64 t.kd, .string t.nm.1, .string t.nm.2, x0, x1, x2, x3, x4, x5, x6, .slice A t.args.length c] := (ho _ (by omega)).trans ((Below.heap_alloc _ _ _ (by simp <;> omega)).trans ((Below.heap_alloc _ _ _ (by simp <;> omega)).trans ((Below.heap_alloc _ _ _ (by simp <;> omega)).trans ((Below.heap_alloc _ _ _ (by simp <;> omega)).trans (heap_alloc_new w _)))))
 have T1 : ((((((w.alloc (.cells #[.int .i64 t.kd, .string t.nm.1, .string t.nm.2, x0, x1, x2, x3, x4, x5, x6, .slice A t.args.length c] 35)).alloc (.cells #[.slice Al l.length cl] 64)).alloc (.cells #[.int .i64 0, .string ⟨#[]⟩, .string ⟨#[]⟩, .int .i64 0, .string ⟨#[]⟩, .string ⟨#[]⟩, .string ⟨#[]⟩, .string ⟨#[]⟩, .string ⟨#[]⟩, .slice none 0 0, .slice none 0 0] 35)).alloc (.cells #[.nilFunc, .pointer none] 99)).alloc (.cells #[.pointer (some ⟨w.heap.size + 1 + 1 + 1, 0, none⟩)] 95)).setCell ⟨w.heap.size + 1 + 1 + 1, 0, none⟩ (.func (.func 85) #[] #[.pointer (some ⟨w.heap.size + 1 + 1 + 1 + 1, 0, none⟩), .pointer (some ⟨w.heap.size + 1, 0, none⟩)])).heap[w.heap.size + 1]? = some (.cells #[.slice Al l.length cl] 64 (0, 0)) := (ho _ (by omega)).trans ((Below.heap_alloc _ _ _ (by simp <;> omega)).trans ((Below.heap_alloc _ _ _ (by simp <;> omega)).trans ((Below.heap_alloc _ _ _ (by simp <;> omega)).trans (heap_new_at (by simp)))))
 have T3 : TB ((((((w.alloc (.cells #[.int .i64 t.kd, .string t.nm.1, .string t.nm.2, x0, x1, x2, x3, x4, x5, x6, .slice A t.args.length c] 35)).alloc (.cells #[.slice Al l.length cl] 64)).alloc (.cells #[.int .i64 0, .string ⟨#[]⟩, .string ⟨#[]⟩, .int .i64 0, .string ⟨#[]⟩, .string ⟨#[]⟩, .string ⟨#[]⟩, .string ⟨#[]⟩, .string ⟨#[]⟩, .slice none 0 0, .slice none 0 0] 35)).alloc (.cells #[.nilFunc, .pointer none] 99)).alloc (.cells #[.pointer (some ⟨w.heap.size + 1 + 1 + 1, 0, none⟩)] 95)).setCell ⟨w.heap.size + 1 + 1 + 1, 0, none⟩ (.func (.func 85) #[] #[.pointer (some ⟨w.heap.size + 1 + 1 + 1 + 1, 0, none⟩), .pointer (some ⟨w.heap.size + 1, 0, none⟩)])) (w.heap.size + 1 + 1) zT := (ho _ (by omega)).trans ((Below.heap_alloc _ _ _ (by simp <;> omega)).trans ((Below.heap_alloc _ _ _ (by simp <;> omega)).trans (heap_new_at (by simp))))
 have T5 : ((((((w.alloc (.cells #[.int .i64 t.kd, .string t.nm.1, .string t.nm.2, x0, x1, x2, x3, x4, x5, x6, .slice A t.args.length c] 35)).alloc (.cells #[.slice Al l.length cl] 64)).alloc (.cells #[.int .i64 0, .string ⟨#[]⟩, .string ⟨#[]⟩, .int .i64 0, .string ⟨#[]⟩, .string ⟨#[]⟩, .string ⟨#[]⟩, .string ⟨#[]⟩, .string ⟨#[]⟩, .slice none 0 0, .slice none 0 0] 35)).alloc (.cells #[.nilFunc, .pointer none] 99)).alloc (.cells #[.pointer (some ⟨w.heap.size + 1 + 1 + 1, 0, none⟩)] 95)).setCell ⟨w.heap.size + 1 + 1 + 1, 0, none⟩ (.func (.func 85) #[] #[.pointer (some ⟨w.heap.size + 1 + 1 + 1 + 1, 0, none⟩), .pointer (some ⟨w.heap.size + 1, 0, none⟩)])).heap[w.heap.size + 1 + 1 + 1 + 1]? = some (.cells #[.pointer (some ⟨w.heap.size + 1 + 1 + 1, 0, none⟩)] 95 (0, 0)) := (ho _ (by omega)).trans (heap_new_at (by simp))
 have hce : ((((((w.alloc (.cells #[.int .i64 t.kd, .string t.nm.1, .string t.nm.2, x0, x1, x2, x3, x4, x5, x6, .slice A t.args.length c] 35)).alloc (.cells #[.slice Al l.length cl] 64)).alloc (.cells #[.int .i64 0, .string ⟨#[]⟩, .string ⟨#[]⟩, .int .i64 0, .string ⟨#[]⟩, .string ⟨#[]⟩, .string ⟨#[]⟩, .string ⟨#[]⟩, .string ⟨#[]⟩, .slice none 0 0, .slice none 0 0] 35)).alloc (.cells #[.nilFunc, .pointer none] 99)).alloc (.cells #[.pointer (some ⟨w.heap.size + 1 + 1 + 1, 0, none⟩)] 95)).setCell ⟨w.heap.size + 1 + 1 + 1, 0, none⟩ (.func (.func 85) #[] #[.pointer (some ⟨w.heap.size + 1 + 1 + 1 + 1, 0, none⟩), .pointer (some ⟨w.heap.size + 1, 0, none⟩)])).cell? ⟨w.heap.size + 1 + 1 + 1 + 1, 0, none⟩ = some (.pointer (some ⟨w.heap.size + 1 + 1 + 1, 0, none⟩)) := by rw [cell_of_row _ _ _ _ _ _ T5]; rfl
 have hcl : ((((((w.alloc (.cells #[.int .i64 t.kd, .string t.nm.1, .string t.nm.2, x0, x1, x2, x3, x4, x5, x6, .slice A t.args.length c] 35)).alloc (.cells #[.slice Al l.length cl] 64)).alloc (.cells #[.int .i64 0, .string ⟨#[]⟩, .string ⟨#[]⟩, .int .i64 0, .string ⟨#[]⟩, .string ⟨#[]⟩, .string ⟨#[]⟩, .string ⟨#[]⟩, .string ⟨#[]⟩, .slice none 0 0, .slice none 0 0] 35)).alloc (.cells #[.nilFunc, .pointer none] 99)).alloc (.cells #[.pointer (some ⟨w.heap.size + 1 + 1 + 1, 0, none⟩)] 95)).setCell ⟨w.heap.size + 1 + 1 + 1, 0, none⟩ (.func (.func 85) #[] #[.pointer (some ⟨w.heap.size + 1 + 1 + 1 + 1, 0, none⟩), .pointer (some ⟨w.heap.size + 1, 0, none⟩)])).cell? ⟨w.heap.size + 1, 0, none⟩ = some (.slice Al l.length cl) := by rw [cell_of_row _ _ _ _ _ _ T1]; rfl
 have C : InsC ((((((w.alloc (.cells #[.int .i64 t.kd, .string t.nm.1, .string t.nm.2, x0, x1, x2, x3, x4, x5, x6, .slice A t.args.length c] 35)).alloc (.cells #[.slice Al l.length cl] 64)).alloc (.cells #[.int .i64 0, .string ⟨#[]⟩, .string ⟨#[]⟩, .int .i64 0, .string ⟨#[]⟩, .string ⟨#[]⟩, .string ⟨#[]⟩, .string ⟨#[]⟩, .string ⟨#[]⟩, .slice none 0 0, .slice none 0 0] 35)).alloc (.cells #[.nilFunc, .pointer none] 99)).alloc (.cells #[.pointer (some ⟨w.heap.size + 1 + 1 + 1, 0, none⟩)] 95)).setCell ⟨w.heap.size + 1 + 1 + 1, 0, none⟩ (.func (.func 85) #[] #[.pointer (some ⟨w.heap.size + 1 + 1 + 1 + 1, 0, none⟩), .pointer (some ⟨w.heap.size + 1, 0, none⟩)])) S (w.heap.size + 1 + 1 + 1) (w.heap.size + 1 + 1 + 1 + 1) (w.heap.size + 1) l (.slice Al l.length cl) := ⟨E7, hce, hcl, hl.below hS hA7, hS.later hA7.size⟩
 have WHC := hI (wholeE 85 _ (instT l) (chI l) t (w.heap.size + 1 + 1 + 1) _ ((((((w.alloc (.cells #[.int .i64 t.kd, .string t.nm.1, .string t.nm.2, x0, x1, x2, x3, x4, x5, x6, .slice A t.args.length c] 35)).alloc (.cells #[.slice Al l.length cl] 64)).alloc (.cells #[.int .i64 0, .string ⟨#[]⟩, .string ⟨#[]⟩, .int .i64 0, .string ⟨#[]⟩, .string ⟨#[]⟩, .string ⟨#[]⟩, .string ⟨#[]⟩, .string ⟨#[]⟩, .slice none 0 0, .slice none 0 0] 35)).alloc (.cells #[.nilFunc, .pointer none] 99)).alloc (.cells #[.pointer (some ⟨w.heap.size + 1 + 1 + 1, 0, none⟩)] 95)).setCell ⟨w.heap.size + 1 + 1 + 1, 0, none⟩ (.func (.func 85) #[] #[.pointer (some ⟨w.heap.size + 1 + 1 + 1 + 1, 0, none⟩), .pointer (some ⟨w.heap.size + 1, 0, none⟩)])) S C.hS E7 (h.below hS hA7) hn (ins_hcf _ _) (fun W b k cs hw hq => insC l _ hbn hll _ _ _ S t W b k cs (C.keep hw) hn hq))
 have c5 : (((((w.alloc (.cells #[.int .i64 t.kd, .string t.nm.1, .string t.nm.2, x0, x1, x2, x3, x4, x5, x6, .slice A t.args.length c] 35)).alloc (.cells #[.slice Al l.length cl] 64)).alloc (.cells #[.int .i64 0, .string ⟨#[]⟩, .string ⟨#[]⟩, .int .i64 0, .string ⟨#[]⟩, .string ⟨#[]⟩, .string ⟨#[]⟩, .string ⟨#[]⟩, .string ⟨#[]⟩, .slice none 0 0, .slice none 0 0] 35)).alloc (.cells #[.nilFunc, .pointer none] 99)).alloc (.cells #[.pointer (some ⟨w.heap.size + 1 + 1 + 1, 0, none⟩)] 95)).cell? ⟨w.heap.size + 1 + 1 + 1 + 1, 0, none⟩ = some (.pointer (some ⟨w.heap.size + 1 + 1 + 1, 0, none⟩)) := by rw [cell_of_row _ _ _ _ _ _ (heap_new_at (by simp))]; rfl
 have HT0 := hI T0
 have HT3 := hI T3
 have HA7 := hI hA7
 have HCE := hI hce
 have HS := hI hS
 generalize instT l t = x at WHC ⊢
 unfold vTm at WHC ⊢
 clear h hl hA6 E6 hsz e7 ho E7 hA7 T0 T1 T3 T5 hce hcl C hn hS hbn hll
 go_enter Tryz.func50, Tryz.ntmps50
 go_upto_region 2 with fail
 generalize (((((w.alloc (.cells #[.int .i64 t.kd, .string t.nm.1, .string t.nm.2, x0, x1, x2, x3, x4, x5, x6, .slice A t.args.length c] 35)).alloc (.cells #[.slice Al l.length cl] 64)).alloc (.cells #[.int .i64 0, .string ⟨#[]⟩, .string ⟨#[]⟩, .int .i64 0, .string ⟨#[]⟩, .string ⟨#[]⟩, .string ⟨#[]⟩, .string ⟨#[]⟩, .string ⟨#[]⟩, .slice none 0 0, .slice none 0 0] 35)).alloc (.cells #[.nilFunc, .pointer none] 99)).alloc (.cells #[.pointer (some ⟨w.heap.size + 1 + 1 + 1, 0, none⟩)] 95)) = Y6 at *
 go_upto_region 3 with fail
 generalize Y6.setCell ⟨w.heap.size + 1 + 1 + 1, 0, none⟩ (.func (.func 85) #[] #[.pointer (some ⟨w.heap.size + 1 + 1 + 1 + 1, 0, none⟩), .pointer (some ⟨w.heap.size + 1, 0, none⟩)]) = Y at *
 have hce := HCE.out
 clear e0 f0 c5
 go_wp2_with ((with_reducible refine loadTb (cs := [.int .i64 t.kd, .string t.nm.1, .string t.nm.2, x0, x1, x2, x3, x4, x5, x6, .slice A t.args.length c]) (.tmp 2) ?_ ?_ ?_ HT0.out ?_ ?_); rfl; rfl; rfl; rfl)
 refine WHC.out.mono ?_
 rintro e w8 ⟨cs8, rfl, h8, hb8⟩
 have O8 := hI h8.o11
 have HB := hI (HT3.out.keep hb8)
 have H8 : Hid (TmAt w8 (Upto w w8 S) x cs8) := h8.more fun q hq => up3 HA7.out (Below.refl _ _) q hq
 have HW := hI (HA7.out.trans (hb8.mono HA7.out.size))
 clear h8 hb8 hce
 go_wp2_with ((with_reducible refine storeTb (cs := cs8) (.tmp 4) (.tmp 14) ?_ ?_ ?_ ?_ HB.out ?_ ?_ ?_ ?_); rfl; rfl; rfl; rfl; rfl; exact O8.out.1; exact O8.out.2)
 exact retTb rfl rfl (HB.out.set _) O8.out.1 ⟨_, rfl, TmAt.boxed H8.out HB.out.nb _, below_setRowO HW.out (by omega) _⟩
end Go.Proofs.YtinjhnnpbejccaaGreatDoor
