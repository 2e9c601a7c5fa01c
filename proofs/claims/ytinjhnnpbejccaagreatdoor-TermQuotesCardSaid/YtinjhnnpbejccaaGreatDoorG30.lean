/- The walk of TermComposes. -/
import Derived.Test.YtinjhnnpbejccaaGreatDoorG19
import Derived.Test.YtinjhnnpbejccaaGreatDoorG29
import Derived.Test.YtinjhnnpbejccaaGreatDoorG28
import Derived.Test.YtinjhnnpbejccaaGreatDoorG23
import Derived.Laws.EntriesVeiled
import Derived.Test.YtinjhnnpbejccaaGreatDoorG21
import Derived.Test.YtinjhnnpbejccaaGreatDoorG24
import Derived.Test.YtinjhnnpbejccaaGreatDoorG27
import Derived.Deep.Upon
import Derived.Test.YtinjhnnpbejccaaGreatDoorG20
import Derived.Test.YtinjhnnpbejccaaGreatDoorG17
import Derived.Test.YtinjhnnpbejccaaGreatDoorG12
namespace Go.Proofs.YtinjhnnpbejccaaGreatDoor
open Go Go.RowKit
set_option linter.unusedVariables false
set_option maxHeartbeats 32000000
set_option maxRecDepth 100000




def NmOkq (t : Tm) : Prop := (t.nm.1.size ≤ maxLen ∧ t.nm.2.size ≤ maxLen) ∧ t.bd 10
abbrev Spotq (w0 : World) (S : Nat → Prop) := { x : Nat × Nat × Tm // ∃ cs, TmP w0 S x.2.2 x.1 x.2.1 cs ∧ NmOkq x.2.2 }
def Spotq.tm {w0 : World} {S : Nat → Prop} (x : Spotq w0 S) : Tm := x.1.2.2




section
variable {Q : Exit → Act → World → Prop}
end




abbrev Lm := Nm × List Nm × Tm
def LmC (w : World) (S : Nat → Prop) (f : Lm) (cs : List Value) : Prop := ∃ pv bc, cs = Value.string f.1.1 :: Value.string f.1.2 :: pv :: bc ∧ NsV w S f.2.1 pv ∧ TmAt w S f.2.2 bc
def qS : Ob := .sym [108, 105, 115, 112] [113, 117, 111, 116, 101]
mutual
def quO : Tm → Ob
 | .var s => .sym (LA s.1) (LA s.2)
 | .con o => Ob.list [qS, o]
 | .app s l => .cons (.sym (LA s.1) (LA s.2)) (Ob.list (quOs l))
def quOs : List Tm → List Ob
 | [] => []
 | t :: l => quO t :: quOs l
end
theorem quOs_map : ∀ l, quOs l = l.map quO
 | [] => by unfold quOs; rfl
 | t :: l => by unfold quOs; rw [quOs_map l]; rfl
structure MkQ (S0 : Nat → Prop) (W wr : World) (l : List Ob) (v : Value) (xs : List (Ob × Value)) : Prop where
 ob : fsts xs = l
 own : wr.ownsRow W.heap.size 33 7 v l.length (flatC xs)
 pairs : ∀ x ∈ xs, Pair wr (fun b => (S0 b ∨ W.heap.size ≤ b) ∧ b < wr.heap.size ∧ v.ownBlock ≠ some b) x.1 x.2
 bel : Below W.heap.size W wr
theorem MkQ.start (S0 : Nat → Prop) (W : World) : MkQ S0 W W [] (.slice none 0 0) [] :=
 ⟨rfl, ⟨rfl, .inl ⟨rfl, rfl⟩⟩, fun x hx => by simp at hx, Below.refl _ _⟩
theorem MkQ.below {S0 : Nat → Prop} {W wo w3 : World} {l : List Ob} {v : Value} {xs : List (Ob × Value)} (h : MkQ S0 W wo l v xs) (hb : Below wo.heap.size wo w3) : MkQ S0 W w3 l v xs :=
 ⟨h.ob, own_keep h.own fun g hg => hb.block g (own_lt h.own g hg).2, fun x hx => (h.pairs x hx).keep (fun b hb' => ⟨hb'.1, Nat.lt_of_lt_of_le hb'.2.1 hb.size, hb'.2.2⟩) (fun b hb' => hb.block b hb'.2.1), h.bel.trans (hb.mono h.bel.size)⟩
theorem MkQ.step2 {S0 : Nat → Prop} {W wo w3 w4 : World} {l : List Ob} {v v' : Value} {xs : List (Ob × Value)} (h : MkQ S0 W wo l v xs) (hS : In S0 W) (hb : Below wo.heap.size wo w3) {o : Ob} {p : Value}
 (hp : Pair w3 (Upto wo w3 S0) o p) (h4 : w4.ownsRow W.heap.size 33 7 v' (l.length + 1) (flatC xs ++ cellsO o p)) (hg : w3.grownBy w4 v.ownBlock) (hat : v'.ownBlock = v.ownBlock ∨ v'.ownBlock = some w3.heap.size) :
 MkQ S0 W w4 (l ++ [o]) v' (xs ++ [(o, p)]) := by
 have hown := own_lt h.own
 have h34 := hg.size
 have hs3 := hb.size
 have hsW := h.bel.size
 have blk : ∀ b, b < w3.heap.size → v.ownBlock ≠ some b → w4.heap[b]? = w3.heap[b]? := fun b hb' hne => hg.block b hb' (fun e => hne e.symm)
 have hne' : ∀ b, b < w3.heap.size → v.ownBlock ≠ some b → v'.ownBlock ≠ some b := fun b hb' hne e => by
  rcases hat with h0 | h0
  · exact hne (h0.symm.trans e)
  · rw [h0] at e
    have : w3.heap.size = b := by injection e
    omega
 refine ⟨by rw [fsts, List.map_append]; show fsts xs ++ [o] = _; rw [h.ob], by rw [flatC_snoc, List.length_append]; exact h4, fun y hy => ?_, ?_⟩
 · rcases List.mem_append.1 hy with hy | hy
   · refine (h.pairs y hy).keep (fun b hb' => ⟨hb'.1, by omega, hne' b (by omega) hb'.2.2⟩) (fun b hb' => ?_)
     rw [blk b (by omega) hb'.2.2, hb.block b hb'.2.1]
   · obtain rfl : y = (o, p) := by simpa using hy
     have hn : ∀ b, Upto wo w3 S0 b → (S0 b ∨ W.heap.size ≤ b) ∧ b < w3.heap.size ∧ v.ownBlock ≠ some b := fun b hb' => by
      rcases hb' with h0 | h0
      · have := hS b h0
        exact ⟨.inl h0, by omega, fun e => by have := (hown b e).1; omega⟩
      · exact ⟨.inr (by omega), h0.2, fun e => by have := (hown b e).2; omega⟩
     refine hp.keep (fun b hb' => ?_) (fun b hb' => ?_)
     · obtain ⟨h0, h1, h2⟩ := hn b hb'
       exact ⟨h0, by omega, hne' b h1 h2⟩
     · obtain ⟨h0, h1, h2⟩ := hn b hb'
       exact blk b h1 h2
 · exact (h.bel.trans (hb.mono hsW)).grown hg (by have := h.bel.size; omega) (fun k hk => by have := (hown k hk).1; omega)
theorem MkQ.slice {S0 : Nat → Prop} {W wr : World} {l : List Ob} {v : Value} {xs : List (Ob × Value)} (h : MkQ S0 W wr l v xs) :
 ∃ A c, v = .slice A l.length c ∧ l.length ≤ c ∧ (0 < l.length → ∃ b o, A = some ⟨b, o, none⟩ ∧ Upto W wr S0 b ∧ ObsAt wr (Upto W wr S0) b o l) := by
 have ho := own_lt h.own
 have hob := h.ob
 rcases h.own.2 with ⟨rfl, e⟩ | ⟨g, cap, cur, rfl, hb, hh, hn, _, hcs, hcur⟩
 · exact ⟨none, 0, by rw [e], by omega, fun h0 => by omega⟩
 · refine ⟨_, cap, rfl, by omega, fun _ => ⟨g, 0, rfl, .inr (ho g rfl), ?_⟩⟩
   rw [← hob]
   refine obsAt_row xs 0 (fun x hx => (h.pairs x hx).more fun b hb => ?_) fun j u hj => ?_
   · rcases hb.1 with h0 | h0
     · exact .inl h0
     · exact .inr ⟨h0, hb.2.1⟩
   · rw [Nat.zero_add, cell_of_row _ _ _ _ _ _ hh]
     rw [← hcur] at hj
     rw [List.getElem?_take] at hj
     split at hj
     · simpa using hj
     · cases hj
def LQ (w0 : World) (S : Nat → Prop) (o : Ob) : Lv := fun v _ _ w => w0.heap.size ≤ w.heap.size ∧ ∃ p, v = vO o p ∧ Pair w (Upto w0 w S) o p
theorem mLQ {w0 : World} {S : Nat → Prop} (hS : In S w0) (o : Ob) : Mon (LQ w0 S o) := fun _ _ _ _ _ ⟨h0, p, h, k⟩ _ hb => ⟨Nat.le_trans h0 hb.size, p, h, k.keep (fun b hb' => upto_more hb.size b hb') (fun b hb' => hb.block b (upto_lt hS h0 b hb'))⟩
def LQ1 (w0 : World) (S : Nat → Prop) (o : Ob) : Lv := fun v lo hi w => w0.heap.size ≤ w.heap.size ∧ ∃ p, v = .slice (some ⟨lo, 0, none⟩) 1 1 ∧ w.heap[lo]? = some (.cells (cellsO o p).toArray 33 (0, 0)) ∧ lo < hi ∧ Pair w (Upto w0 w S) o p
theorem mLQ1 {w0 : World} {S : Nat → Prop} (hS : In S w0) (o : Ob) : Mon (LQ1 w0 S o) := fun _ _ _ _ _ ⟨h0, p, h, hr, hl, k⟩ hm hb => ⟨Nat.le_trans h0 hb.size, p, h, (hb.block _ (by omega)).trans hr, hl, k.keep (fun b hb' => upto_more hb.size b hb') (fun b hb' => hb.block b (upto_lt hS h0 b hb'))⟩
def LQ2 (w0 : World) (S : Nat → Prop) (o u : Ob) : Lv := fun v lo hi w => w0.heap.size ≤ w.heap.size ∧ ∃ p q, v = .slice (some ⟨lo, 0, none⟩) 2 2 ∧ w.heap[lo]? = some (.cells (cellsO o p ++ cellsO u q).toArray 33 (0, 0)) ∧ lo < hi ∧ w0.heap.size ≤ lo ∧ Pair w (Upto w0 w S) o p ∧ Pair w (Upto w0 w S) u q
theorem mLQ2 {w0 : World} {S : Nat → Prop} (hS : In S w0) (o u : Ob) : Mon (LQ2 w0 S o u) := fun _ _ _ _ _ ⟨h0, p, q, h, hr, hl, h1, k, k'⟩ hm hb => ⟨Nat.le_trans h0 hb.size, p, q, h, (hb.block _ (by omega)).trans hr, hl, h1, k.keep (fun b hb' => upto_more hb.size b hb') (fun b hb' => hb.block b (upto_lt hS h0 b hb')), k'.keep (fun b hb' => upto_more hb.size b hb') (fun b hb' => hb.block b (upto_lt hS h0 b hb'))⟩
theorem infoO8 : ∃ i, Tryz.prog.info? 33 = some i ∧ i.zero = some (.agg #[.int .i64 0, .string ⟨#[]⟩, .string ⟨#[]⟩, .string ⟨#[]⟩, .string ⟨#[]⟩, .string ⟨#[]⟩, .slice none 0 0]) ∧ i.size = 7 ∧ i.bytes = 112 := info_of (P := Tryz.prog) (t := 33) (z := .agg #[.int .i64 0, .string ⟨#[]⟩, .string ⟨#[]⟩, .string ⟨#[]⟩, .string ⟨#[]⟩, .string ⟨#[]⟩, .slice none 0 0]) (a := 7) (b := 112) (by kernel_rfl)
theorem recallO (p q c0 c1 : Value) (o : Ob) (w : World) (S : Nat → Prop) (hS : In S w) (hp : p.oneCell' = true) (hq : q.oneCell' = true)
 (hc : ∀ W, Below w.heap.size w W → Calls Tryz.prog 141 #[c0, c1] W (RetO W S o)) :
 Calls Tryz.prog 140 #[.pointer none, .agg #[p, q], .func (.func 141) #[] #[c0, c1]] w (RetO w S o) := by
 have HC := hI hc
 clear hc
 have hcf : ∀ W : World, (callFunc 141 #[c0, c1]).run Tryz.prog W = .ok (.enter 141 #[c0, c1]) W := fun W => by go_simp
 have hbx : Below w.heap.size w ((w.alloc (.cells #[p, q] 112)).alloc (.cells #[.int .i64 0, .string ⟨#[]⟩, .string ⟨#[]⟩, .string ⟨#[]⟩, .string ⟨#[]⟩, .string ⟨#[]⟩, .slice none 0 0] 33)) := Below.alloc (Below.alloc (Below.refl _ _) (Nat.le_refl _) _) (by simp) _
 have B6 : ((w.alloc (.cells #[p, q] 112)).alloc (.cells #[.int .i64 0, .string ⟨#[]⟩, .string ⟨#[]⟩, .string ⟨#[]⟩, .string ⟨#[]⟩, .string ⟨#[]⟩, .slice none 0 0] 33)).heap[w.heap.size + 1]? = some (.cells #[.int .i64 0, .string ⟨#[]⟩, .string ⟨#[]⟩, .string ⟨#[]⟩, .string ⟨#[]⟩, .string ⟨#[]⟩, .slice none 0 0] 33 (0, 0)) := heap_new_at (by simp)
 have hz : ((w.alloc (.cells #[p, q] 112)).alloc (.cells #[.int .i64 0, .string ⟨#[]⟩, .string ⟨#[]⟩, .string ⟨#[]⟩, .string ⟨#[]⟩, .string ⟨#[]⟩, .slice none 0 0] 33)).heap.size = w.heap.size + 2 := by simp
 have HX := hI hbx
 have HB6 := hI B6
 have HZ := hI hz
 have HS := hI hS
 clear hbx B6 hz hS
 go_enter Tryz.func140, Tryz.ntmps140
 go_wp2_with fail
 generalize ((w.alloc (.cells #[p, q] 112)).alloc (.cells #[.int .i64 0, .string ⟨#[]⟩, .string ⟨#[]⟩, .string ⟨#[]⟩, .string ⟨#[]⟩, .string ⟨#[]⟩, .slice none 0 0] 33)) = Y at *
 refine (HC.out _ HX.out).mono ?_
 rintro e w1 ⟨r, rfl, hr, hb⟩
 have HB := hI (chain2 HX.out hb (Nat.le_refl _))
 have h6 := (hb.block (w.heap.size + 1) (by have := HZ.out; omega)).trans HB6.out
 have hys := hb.size
 have hyz := HZ.out
 go_wp2_with ((with_reducible refine storeV rfl (.tmp 6) (.tmp 13) rfl _ o r rfl rfl hr _ _ h6 rfl ?_))
 exact retV (w0 := w) (S := S) rfl rfl h6 hr (fun h => by
  rcases h with h | h
  · have := HS.out _ h; omega
  · omega) (fun b hb0 => by
  rcases hb0 with h | h
  · exact .inl h
  · exact .inr ⟨by omega, h.2⟩) (by omega) HB.out
theorem quoteAll1 (l : List Tm) (A : Option Addr) (c gl gm : Nat) (w : World) (S : Nat → Prop) (hS : In S w) (hgl : w.cell? ⟨gl, 0, none⟩ = some (.slice A l.length c)) (hgm : w.cell? ⟨gm, 0, none⟩ = some (.pointer none)) (ha : ArgsAt w S l A c) (hn : l.length ≤ 3000)
 (ke : ∀ x ∈ l, ∀ (W : World) (b k : Nat) (cs : List Value), Below w.heap.size w W → TmQ W S x b k cs → Calls Tryz.prog 88 #[.pointer none, .pointer (some ⟨b, k, none⟩)] W (RetO W S (quO x))) :
 Calls Tryz.prog 141 #[.pointer (some ⟨gl, 0, none⟩), .pointer (some ⟨gm, 0, none⟩)] w (RetO w S (Ob.list (l.map quO))) := by
 obtain ⟨os, hos⟩ : ∃ os, l.map quO = os := ⟨_, rfl⟩
 rw [hos]
 have HOS := hI hos
 clear hos
 have hA : Below w.heap.size w (w.alloc (.cells #[.int .i64 0, .string ⟨#[]⟩, .string ⟨#[]⟩, .string ⟨#[]⟩, .string ⟨#[]⟩, .string ⟨#[]⟩, .slice none 0 0] 33)) := below_alT w _
 have B2 : (w.alloc (.cells #[.int .i64 0, .string ⟨#[]⟩, .string ⟨#[]⟩, .string ⟨#[]⟩, .string ⟨#[]⟩, .string ⟨#[]⟩, .slice none 0 0] 33)).heap[w.heap.size]? = some (.cells #[.int .i64 0, .string ⟨#[]⟩, .string ⟨#[]⟩, .string ⟨#[]⟩, .string ⟨#[]⟩, .string ⟨#[]⟩, .slice none 0 0] 33 (0, 0)) := heap_alloc_new w _
 have hz : (w.alloc (.cells #[.int .i64 0, .string ⟨#[]⟩, .string ⟨#[]⟩, .string ⟨#[]⟩, .string ⟨#[]⟩, .string ⟨#[]⟩, .slice none 0 0] 33)).heap.size = w.heap.size + 1 := by simp
 have hl0 := World.block_lt_of_cell? w _ hgl
 have hm0 := World.block_lt_of_cell? w _ hgm
 have HGL0 : Hid ((w.alloc (.cells #[.int .i64 0, .string ⟨#[]⟩, .string ⟨#[]⟩, .string ⟨#[]⟩, .string ⟨#[]⟩, .string ⟨#[]⟩, .slice none 0 0] 33)).cell? ⟨gl, 0, none⟩ = some (.slice A l.length c) ∧ gl < (w.alloc (.cells #[.int .i64 0, .string ⟨#[]⟩, .string ⟨#[]⟩, .string ⟨#[]⟩, .string ⟨#[]⟩, .string ⟨#[]⟩, .slice none 0 0] 33)).heap.size) := ⟨(hA.cell (p := ⟨gl, 0, none⟩) hl0).trans hgl, Nat.lt_of_lt_of_le hl0 hA.size⟩
 have HGM0 : Hid ((w.alloc (.cells #[.int .i64 0, .string ⟨#[]⟩, .string ⟨#[]⟩, .string ⟨#[]⟩, .string ⟨#[]⟩, .string ⟨#[]⟩, .slice none 0 0] 33)).cell? ⟨gm, 0, none⟩ = some (.pointer none) ∧ gm < (w.alloc (.cells #[.int .i64 0, .string ⟨#[]⟩, .string ⟨#[]⟩, .string ⟨#[]⟩, .string ⟨#[]⟩, .string ⟨#[]⟩, .slice none 0 0] 33)).heap.size) := ⟨(hA.cell (p := ⟨gm, 0, none⟩) hm0).trans hgm, Nat.lt_of_lt_of_le hm0 hA.size⟩
 have HAR : Hid (ArgsAt (w.alloc (.cells #[.int .i64 0, .string ⟨#[]⟩, .string ⟨#[]⟩, .string ⟨#[]⟩, .string ⟨#[]⟩, .string ⟨#[]⟩, .slice none 0 0] 33)) S l A c) := ha.below hS hA
 have HSY : Hid (In S (w.alloc (.cells #[.int .i64 0, .string ⟨#[]⟩, .string ⟨#[]⟩, .string ⟨#[]⟩, .string ⟨#[]⟩, .string ⟨#[]⟩, .slice none 0 0] 33))) := hS.later hA.size
 have HS := hI hS
 have KE : Hid (∀ x ∈ l, ∀ (W : World) (b k : Nat) (cs : List Value), Below (w.alloc (.cells #[.int .i64 0, .string ⟨#[]⟩, .string ⟨#[]⟩, .string ⟨#[]⟩, .string ⟨#[]⟩, .string ⟨#[]⟩, .slice none 0 0] 33)).heap.size (w.alloc (.cells #[.int .i64 0, .string ⟨#[]⟩, .string ⟨#[]⟩, .string ⟨#[]⟩, .string ⟨#[]⟩, .string ⟨#[]⟩, .slice none 0 0] 33)) W → TmQ W S x b k cs → Calls Tryz.prog 88 #[.pointer none, .pointer (some ⟨b, k, none⟩)] W (RetO W S (quO x))) := fun x hx W b k cs hW hq => ke x hx W b k cs (hA.trans (hW.mono hA.size)) hq
 have HA := hI hA
 have HB2 := hI B2
 have HZ := hI hz
 have hcl := ha.1
 obtain ⟨L, hL⟩ : ∃ L, l.length = L := ⟨_, rfl⟩
 rw [hL] at HGL0 hcl hn
 have HL := hI hL
 obtain ⟨i0, hi0, hz0, hz1, hz2⟩ := infoO8
 have HI0 := hI hi0
 have HZ0 := hI hz0
 have HZ1 := hI hz1
 have HZ2 := hI hz2
 have h0 : Hid (∃ xs, MkQ S (w.alloc (.cells #[.int .i64 0, .string ⟨#[]⟩, .string ⟨#[]⟩, .string ⟨#[]⟩, .string ⟨#[]⟩, .string ⟨#[]⟩, .slice none 0 0] 33)) (w.alloc (.cells #[.int .i64 0, .string ⟨#[]⟩, .string ⟨#[]⟩, .string ⟨#[]⟩, .string ⟨#[]⟩, .string ⟨#[]⟩, .slice none 0 0] 33)) ((l.take 0).map quO) (.slice none 0 0) xs) := ⟨[], MkQ.start S _⟩
 clear hA B2 hz hl0 hm0 hgl hgm ha hS ke hL hi0 hz0 hz1 hz2
 go_enter Tryz.func141, Tryz.ntmps141
 go_upto_region 1 with fail
 generalize (w.alloc (.cells #[.int .i64 0, .string ⟨#[]⟩, .string ⟨#[]⟩, .string ⟨#[]⟩, .string ⟨#[]⟩, .string ⟨#[]⟩, .slice none 0 0] 33)) = Y at *
 have g0 := HGL0.out.1
 go_wp2_with fail
 clear g0
 go_loopw [3, 7] (fun u v wr => ∃ (i : Nat) (sl : Value), sl = u ∧ i ≤ L ∧ v = .int .i64 (i : Int) ∧ Hid (∃ xs, MkQ S Y wr ((l.take i).map quO) sl xs)) (fun _ v _ => L - (intOf v).toNat)
 case atStart => exact ⟨0, _, rfl, Nat.zero_le _, rfl, h0⟩
 case round =>
  clear h0
  obtain ⟨i, sl, rfl, hiL, rfl, hE⟩ := hrel
  obtain ⟨wo, rfl⟩ : ∃ wo : World, wo = wr := ⟨_, rfl⟩
  obtain ⟨xs, hM⟩ := hE.out
  have hbel := hM.bel
  have hs1 := hbel.size
  by_cases hlt : i < L
  · have hil : i < l.length := by rw [HL.out]; exact hlt
    obtain ⟨ba, oa, cx, rfl, hP⟩ := HAR.out.arg hil
    have hq := (hP.q HSY.out).below HSY.out hbel
    have HSO : Hid (In S wo) := HSY.out.later hs1
    have CALL : Hid (∀ W, Below wo.heap.size wo W → Calls Tryz.prog 88 #[.pointer none, .pointer (some ⟨ba, oa + i * 11, none⟩)] W (RetO W S (quO l[i]))) := fun W hW => KE.out l[i] (List.getElem_mem hil) W _ _ _ (hbel.trans (hW.mono hbel.size)) (hq.below HSO.out hW)
    have HTK : Hid ((l.take (i + 1)).map quO = (l.take i).map quO ++ [quO l[i]]) := (show _ = _ by rw [List.take_add_one, List.getElem?_eq_getElem hil, List.map_append]; rfl)
    have HLN : Hid (((l.take i).map quO).length = i) := (show _ = _ by simp; omega)
    have HMK := hI hM
    have HL0 := hI ((hbel.cell (p := ⟨gl, 0, none⟩) HGL0.out.2).trans HGL0.out.1)
    have HM0 := hI ((hbel.cell (p := ⟨gm, 0, none⟩) HGM0.out.2).trans HGM0.out.1)
    have HGL : Hid (gl < wo.heap.size) := Nat.lt_of_lt_of_le HGL0.out.2 hbel.size
    have HGM : Hid (gm < wo.heap.size) := Nat.lt_of_lt_of_le HGM0.out.2 hbel.size
    generalize l[i] = x at *
    clear hE hM hP hq hbel KE
    go_wp2_with fail
    refine wp_region_grow (l := _) 7 (by kernel_rfl) (by kernel_rfl) (fun i => [10, 11, 12, 13, 14, 15, 16].getD i 0) (LR [LV (sl), LV (.pointer none), LV (.slice (some ⟨ba, oa, none⟩) L c), LV (.int .i64 (i : Int)), LV (.pointer (some ⟨ba, oa + i * 11, none⟩)), LQ wo S (quO x), LQ1 wo S (quO x)]) (LR_mono ⟨mLV _, mLV _, mLV _, mLV _, mLV _, mLQ HSO.out _, mLQ1 HSO.out _, trivial⟩) (by
     intro i j hi hj h
     exact inj_getD [10, 11, 12, 13, 14, 15, 16] (by decide) i j hi hj h) (by
     intro i hi
     exact lt_getD 21 [10, 11, 12, 13, 14, 15, 16] (by decide) i hi) ?step ?done
    case step =>
     intro ii hii a w9 v lo hi' hoth hb hw
     have sl3 : a.tmps[3]? = some (sl) := (hoth 3 (fun j hj => ne_getD 3 _ (by decide) j hj)).trans rfl
     have sl0 : a.tmps[0]? = some (.pointer (some ⟨gl, 0, none⟩)) := (hoth 0 (fun j hj => ne_getD 0 _ (by decide) j hj)).trans rfl
     have sl1 : a.tmps[1]? = some (.pointer (some ⟨gm, 0, none⟩)) := (hoth 1 (fun j hj => ne_getD 1 _ (by decide) j hj)).trans rfl
     have sl4 : a.tmps[4]? = some (.int .i64 (i : Int)) := (hoth 4 (fun j hj => ne_getD 4 _ (by decide) j hj)).trans rfl
     match ii, hii with
     | 0, _ =>
      exact gw_move rfl (wanted_plain rfl) 3 _ rfl sl3 ⟨_, rfl, Below.refl _ _, rfl⟩
     | 1, _ =>
      have cc := (hb.cell (p := ⟨gm, 0, none⟩) HGM.out).trans HM0.out
      refine wpOp_step rfl fun K' hK' => ?_
      rw [if_pos (wanted_plain rfl)]
      unfold Oper.wp
      simp only [execOp]
      go_simp
      exact hK' _ _ ⟨_, rfl, Below.refl _ _, rfl⟩
     | 2, _ =>
      have cc := (hb.cell (p := ⟨gl, 0, none⟩) HGL.out).trans HL0.out
      refine wpOp_step rfl fun K' hK' => ?_
      rw [if_pos (wanted_plain rfl)]
      unfold Oper.wp
      simp only [execOp]
      go_simp
      exact hK' _ _ ⟨_, rfl, Below.refl _ _, rfl⟩
     | 3, _ =>
      exact gw_move rfl (wanted_plain rfl) 4 _ rfl sl4 ⟨_, rfl, Below.refl _ _, rfl⟩
     | 4, _ =>
      obtain ⟨s0, r0, _⟩ := hw 2 (by omega) (by kernel_rfl)
      have e0 : v 2 = .slice (some ⟨ba, oa, none⟩) L c := r0
      rw [e0] at s0
      replace s0 : a.tmps[12]? = some (.slice (some ⟨ba, oa, none⟩) L c) := s0
      obtain ⟨s1, r1, _⟩ := hw 3 (by omega) (by kernel_rfl)
      have e1 : v 3 = .int .i64 (i : Int) := r1
      rw [e1] at s1
      replace s1 : a.tmps[13]? = some (.int .i64 (i : Int)) := s1
      refine wpOp_step rfl fun K' hK' => ?_
      rw [if_pos (wanted_plain rfl)]
      unfold Oper.wp
      simp only [execOp]
      go_simp
      exact hK' _ _ ⟨_, rfl, Below.refl _ _, rfl⟩
     | 5, _ =>
      obtain ⟨s0, r0, _⟩ := hw 1 (by omega) (by kernel_rfl)
      have e0 : v 1 = .pointer none := r0
      rw [e0] at s0
      replace s0 : a.tmps[11]? = some (.pointer none) := s0
      obtain ⟨s1, r1, _⟩ := hw 4 (by omega) (by kernel_rfl)
      have e1 : v 4 = .pointer (some ⟨ba, oa + i * 11, none⟩) := r1
      rw [e1] at s1
      replace s1 : a.tmps[14]? = some (.pointer (some ⟨ba, oa + i * 11, none⟩)) := s1
      refine gw_tt rfl (wanted_plain rfl) 88 11 14 _ _ _ rfl (fun v u w => by go_simp) s0 s1 ?_
      with_reducible refine (CALL.out w9 hb).mono ?_
      rintro e w3 ⟨p3, rfl, h3, hb3⟩
      exact ⟨_, rfl, _, rfl, hb3, Nat.le_trans hb.size hb3.size, p3, rfl, h3.more (fun b hb0 => up3 (Below.refl _ wo) hb b hb0)⟩
     | 6, _ =>
      obtain ⟨s0, r0, b0⟩ := hw 5 (by omega) (by kernel_rfl)
      obtain ⟨hz0, p0, e0, h0⟩ := r0
      rw [e0] at s0
      replace s0 : a.tmps[15]? = some (vO (quO x) p0) := s0
      obtain ⟨a0, a1, a2, a3, a4, a5, ec⟩ := cells7 (quO x) p0
      have s0' : a.tmps[15]? = some (.agg #[a0, a1, a2, a3, a4, a5, p0]) := by rw [s0]; unfold vO; rw [ec]
      refine wpOp_step rfl fun K' hK' => ?_
      rw [if_pos (wanted_plain rfl)]
      unfold Oper.wp
      clear s0
      simp only [execOp]
      go_simp
      exact hK' _ _ ⟨_, rfl, below_alT _ _, Nat.le_trans hb.size (below_alT _ _).size, p0, rfl, by rw [ec]; exact heap_alloc_new _ _, by simp, (h0.keep (fun _ h => h) (fun b hb' => (below_alT _ _).block b (upto_lt HSO.out hb.size b hb'))).more (fun b hb' => upto_more (below_alT _ _).size b hb')⟩
    case done =>
     intro a w9 v lo hi' hdef hsz hoth hb hj hap
     obtain ⟨_, hv0, _, _⟩ := hj 0 (by omega)
     obtain ⟨_, ⟨hz6, p3, hv6, hrow, hlt6, h3⟩, hlo6, hhi6⟩ := hj 6 (by omega)
     have ha := eq_puts hdef hsz hoth (fun i hi => (hj i hi).1)
     subst ha
     clear hj hoth hdef hsz hap
     change v 0 = _ at hv0
     simp only [puts, List.getD_cons_zero, List.getD_cons_succ, hv0, hv6]
     generalize v 1 = v1
     generalize v 2 = v2
     generalize v 3 = v3
     generalize v 4 = v4
     generalize v 5 = v5
     clear hv0 hv6
     simp only [Act.put, List.setIfInBounds_toArray, List.set_cons_zero, List.set_cons_succ]
     show wpList _ _ _ [_, _] _ _
     have own3 := hI (HMK.out.below hb).own
     rw [HLN.out] at own3
     have hl7 : (cellsO (quO x) p3).length = 7 := cellsO_length _ _
     have hone : ∀ u ∈ cellsO (quO x) p3, u.oneCell' = true := by
      have h := h3.one
      rw [Array.all_eq_true_iff_forall_mem] at h
      intro u hu
      exact h u (by simpa using hu)
     have HSTEP : Hid (∀ v' w4, w4.ownsRow Y.heap.size 33 7 v' (i + 1) (flatC xs ++ cellsO (quO x) p3) → w9.grownBy w4 sl.ownBlock → (v'.ownBlock = sl.ownBlock ∨ v'.ownBlock = some w9.heap.size) → ∃ xs', MkQ S Y w4 ((l.take (i + 1)).map quO) v' xs') :=
      fun v' w4 h4 hg hat => ⟨_, by rw [HTK.out]; exact HMK.out.step2 HSY.out hb h3 (by rw [HLN.out]; exact h4) hg hat⟩
     have hnews : ∀ j u, (cellsO (quO x) p3)[j]? = some u → w9.cell? ((⟨lo 6, 0, none⟩ : Addr).add j) = some u := news_at hrow
     have hs3 : Y.heap.size ≤ w9.heap.size := by have := hb.size; omega
     have HNEWS := hI hnews
     have HONE := hI hone
     have HL7 := hI hl7
     generalize lo 6 = qq at *
     generalize cellsO (quO x) p3 = cs3 at *
     clear h3 hb CALL hnews HMK hrow hlt6 hz6 HTK hone hl7
     go_wp2_with (at_builtin; refine wpList_append_own_at _ rfl (.tmp 10) (.tmp 16) _ rfl Y.heap.size 33 i0 _ 7 112 Tryz.underlying31 HI0.out HZ0.out HZ1.out HZ2.out rfl (by omega) sl i (flatC xs) rfl own3.out ⟨qq, 0, none⟩ 1 1 cs3 rfl HL7.out HNEWS.out HONE.out (by simp only [maxLen]; omega) (by omega) hs3 ?_; intro v4 w4 hown4 hg4 hnil4 hat4; have hst := hI (HSTEP.out v4 w4 hown4 hg4 hat4); clear hown4 hg4 hnil4 hat4)
     go_roundw
     case rel => exact ⟨i + 1, _, rfl, by omega, by go_num, hst⟩
     case measure => simp [intOf]; omega
  · have hiL2 : i = L := by omega
    have hn2 : ¬ (i : Int) < L := by omega
    have hM2 : MkQ S Y wo os sl xs := by
     have h := hM
     rw [hiL2, ← HL.out, List.take_length, HOS.out] at h
     exact h
    have hol : os.length = L := by rw [← HOS.out, List.length_map, HL.out]
    obtain ⟨Ao, co, rfl, hco, hoo⟩ := hM2.slice
    have LC0 := listP os Ao co wo (Upto Y wo S) (HSY.out.upto hs1) hco (by rw [hol]; omega) hoo
    rw [hol] at LC0 ⊢
    obtain ⟨o8, ho8⟩ : ∃ o, Ob.list os = o := ⟨_, rfl⟩
    rw [ho8] at LC0
    have HO8 := hI ho8
    clear ho8
    have LC := hI LC0
    have h2 := (hbel.block w.heap.size (by have := HZ.out; omega)).trans HB2.out
    have HBY : Hid (Below w.heap.size w wo) := HA.out.trans (hbel.mono HA.out.size)
    have H2 := hI h2
    have HLO : Hid (w.heap.size < wo.heap.size) := (show _ < _ by have := HZ.out; omega)
    clear hE hM hM2 hlt hoo h2 KE LC0 hol
    go_wp2_with fail
    refine LC.out.mono ?_
    rintro e w5 ⟨r, rfl, hr, hb5⟩
    have h2 := (hb5.block w.heap.size HLO.out).trans H2.out
    have HB5 : Hid (Below w.heap.size w w5) := HBY.out.trans (hb5.mono HBY.out.size)
    have hyz := HZ.out
    have hs5 := hb5.size
    go_wp2_with ((with_reducible refine storeV rfl (.tmp 2) (.tmp 20) rfl _ o8 r rfl rfl hr _ _ h2 rfl ?_))
    rw [HO8.out]
    simp only [Act.put]
    exact retV (w0 := w) (S := S) rfl rfl h2 hr (fun h => by
     rcases h with (h | h) | h
     · have := HS.out _ h; omega
     · omega
     · omega) (fun b hb0 => by
     rcases hb0 with (h | h) | h
     · exact .inl h
     · exact .inr ⟨by omega, by omega⟩
     · exact .inr ⟨by omega, h.2⟩) (Nat.le_refl _) HB5.out
theorem quoteAllT (l : List Tm) (A : Option Addr) (c : Nat) (w : World) (S : Nat → Prop) (hS : In S w) (ha : ArgsAt w S l A c) (hn : l.length ≤ 3000)
 (ke : ∀ x ∈ l, ∀ (W : World) (b k : Nat) (cs : List Value), Below w.heap.size w W → TmQ W S x b k cs → Calls Tryz.prog 88 #[.pointer none, .pointer (some ⟨b, k, none⟩)] W (RetO W S (quO x))) :
 Calls Tryz.prog 113 #[.pointer none, .slice A l.length c] w (RetO w S (Ob.list (l.map quO))) := by
 obtain ⟨L, hL⟩ : ∃ L, l.length = L := ⟨_, rfl⟩
 have HA := hI ha
 have HL := hI hL
 rw [hL]
 have hA : Below w.heap.size w (((w.alloc (.cells #[.pointer none] 109)).alloc (.cells #[.slice A L c] 30)).alloc (.cells #[.int .i64 0, .string ⟨#[]⟩, .string ⟨#[]⟩, .string ⟨#[]⟩, .string ⟨#[]⟩, .string ⟨#[]⟩, .slice none 0 0] 33)) := Below.alloc (Below.alloc (Below.alloc (Below.refl _ _) (Nat.le_refl _) _) (by simp) _) (by simp <;> omega) _
 have r0 : (((w.alloc (.cells #[.pointer none] 109)).alloc (.cells #[.slice A L c] 30)).alloc (.cells #[.int .i64 0, .string ⟨#[]⟩, .string ⟨#[]⟩, .string ⟨#[]⟩, .string ⟨#[]⟩, .string ⟨#[]⟩, .slice none 0 0] 33)).heap[w.heap.size]? = some (.cells #[.pointer none] 109 (0, 0)) := (Below.heap_alloc _ _ _ (by simp <;> omega)).trans ((Below.heap_alloc _ _ _ (by simp)).trans (heap_alloc_new w _))
 have r1 : (((w.alloc (.cells #[.pointer none] 109)).alloc (.cells #[.slice A L c] 30)).alloc (.cells #[.int .i64 0, .string ⟨#[]⟩, .string ⟨#[]⟩, .string ⟨#[]⟩, .string ⟨#[]⟩, .string ⟨#[]⟩, .slice none 0 0] 33)).heap[w.heap.size + 1]? = some (.cells #[.slice A L c] 30 (0, 0)) := (Below.heap_alloc _ _ _ (by simp <;> omega)).trans (heap_new_at (by simp))
 have r4 : (((w.alloc (.cells #[.pointer none] 109)).alloc (.cells #[.slice A L c] 30)).alloc (.cells #[.int .i64 0, .string ⟨#[]⟩, .string ⟨#[]⟩, .string ⟨#[]⟩, .string ⟨#[]⟩, .string ⟨#[]⟩, .slice none 0 0] 33)).heap[w.heap.size + 1 + 1]? = some (.cells #[.int .i64 0, .string ⟨#[]⟩, .string ⟨#[]⟩, .string ⟨#[]⟩, .string ⟨#[]⟩, .string ⟨#[]⟩, .slice none 0 0] 33 (0, 0)) := heap_new_at (by simp)
 have hz : (((w.alloc (.cells #[.pointer none] 109)).alloc (.cells #[.slice A L c] 30)).alloc (.cells #[.int .i64 0, .string ⟨#[]⟩, .string ⟨#[]⟩, .string ⟨#[]⟩, .string ⟨#[]⟩, .string ⟨#[]⟩, .slice none 0 0] 33)).heap.size = w.heap.size + 3 := by simp
 have hm : (((w.alloc (.cells #[.pointer none] 109)).alloc (.cells #[.slice A L c] 30)).alloc (.cells #[.int .i64 0, .string ⟨#[]⟩, .string ⟨#[]⟩, .string ⟨#[]⟩, .string ⟨#[]⟩, .string ⟨#[]⟩, .slice none 0 0] 33)).cell? ⟨w.heap.size, 0, none⟩ = some (.pointer none) := by rw [cell_of_row _ _ _ _ _ _ r0]; rfl
 have hl : (((w.alloc (.cells #[.pointer none] 109)).alloc (.cells #[.slice A L c] 30)).alloc (.cells #[.int .i64 0, .string ⟨#[]⟩, .string ⟨#[]⟩, .string ⟨#[]⟩, .string ⟨#[]⟩, .string ⟨#[]⟩, .slice none 0 0] 33)).cell? ⟨w.heap.size + 1, 0, none⟩ = some (.slice A L c) := by rw [cell_of_row _ _ _ _ _ _ r1]; rfl
 have HM0 : Hid ((((w.alloc (.cells #[.pointer none] 109)).alloc (.cells #[.slice A L c] 30)).alloc (.cells #[.int .i64 0, .string ⟨#[]⟩, .string ⟨#[]⟩, .string ⟨#[]⟩, .string ⟨#[]⟩, .string ⟨#[]⟩, .slice none 0 0] 33)).cell? ⟨w.heap.size, 0, none⟩ = some (.pointer none) ∧ w.heap.size < (((w.alloc (.cells #[.pointer none] 109)).alloc (.cells #[.slice A L c] 30)).alloc (.cells #[.int .i64 0, .string ⟨#[]⟩, .string ⟨#[]⟩, .string ⟨#[]⟩, .string ⟨#[]⟩, .string ⟨#[]⟩, .slice none 0 0] 33)).heap.size) := ⟨hm, by omega⟩
 have HL0 : Hid ((((w.alloc (.cells #[.pointer none] 109)).alloc (.cells #[.slice A L c] 30)).alloc (.cells #[.int .i64 0, .string ⟨#[]⟩, .string ⟨#[]⟩, .string ⟨#[]⟩, .string ⟨#[]⟩, .string ⟨#[]⟩, .slice none 0 0] 33)).cell? ⟨w.heap.size + 1, 0, none⟩ = some (.slice A L c) ∧ w.heap.size + 1 < (((w.alloc (.cells #[.pointer none] 109)).alloc (.cells #[.slice A L c] 30)).alloc (.cells #[.int .i64 0, .string ⟨#[]⟩, .string ⟨#[]⟩, .string ⟨#[]⟩, .string ⟨#[]⟩, .string ⟨#[]⟩, .slice none 0 0] 33)).heap.size) := ⟨hl, by omega⟩
 have HSY : Hid (In S (((w.alloc (.cells #[.pointer none] 109)).alloc (.cells #[.slice A L c] 30)).alloc (.cells #[.int .i64 0, .string ⟨#[]⟩, .string ⟨#[]⟩, .string ⟨#[]⟩, .string ⟨#[]⟩, .string ⟨#[]⟩, .slice none 0 0] 33))) := hS.later hA.size
 have hay : ArgsAt (((w.alloc (.cells #[.pointer none] 109)).alloc (.cells #[.slice A L c] 30)).alloc (.cells #[.int .i64 0, .string ⟨#[]⟩, .string ⟨#[]⟩, .string ⟨#[]⟩, .string ⟨#[]⟩, .string ⟨#[]⟩, .slice none 0 0] 33)) S l A c := ha.below hS hA
 have PC0 : ∀ W, Below (((w.alloc (.cells #[.pointer none] 109)).alloc (.cells #[.slice A L c] 30)).alloc (.cells #[.int .i64 0, .string ⟨#[]⟩, .string ⟨#[]⟩, .string ⟨#[]⟩, .string ⟨#[]⟩, .string ⟨#[]⟩, .slice none 0 0] 33)).heap.size (((w.alloc (.cells #[.pointer none] 109)).alloc (.cells #[.slice A L c] 30)).alloc (.cells #[.int .i64 0, .string ⟨#[]⟩, .string ⟨#[]⟩, .string ⟨#[]⟩, .string ⟨#[]⟩, .string ⟨#[]⟩, .slice none 0 0] 33)) W → Calls Tryz.prog 104 #[.slice A l.length c] W (fun e w' => e = .returned (.agg (plV A l.length)) ∧ Below W.heap.size W w') := fun W hb => placeT l A c W S (hay.below HSY.out hb)
 obtain ⟨p0, p1, ep, ho0, ho1⟩ : ∃ p0 p1, plV A l.length = #[p0, p1] ∧ p0.oneCell' = true ∧ p1.oneCell' = true := by unfold plV; split <;> exact ⟨_, _, rfl, rfl, rfl⟩
 rw [ep, hL] at PC0
 have PC := hI PC0
 obtain ⟨O, hO⟩ : ∃ O, Ob.list (l.map quO) = O := ⟨_, rfl⟩
 rw [hO]
 have RCC : Hid (∀ W, Below (((w.alloc (.cells #[.pointer none] 109)).alloc (.cells #[.slice A L c] 30)).alloc (.cells #[.int .i64 0, .string ⟨#[]⟩, .string ⟨#[]⟩, .string ⟨#[]⟩, .string ⟨#[]⟩, .string ⟨#[]⟩, .slice none 0 0] 33)).heap.size (((w.alloc (.cells #[.pointer none] 109)).alloc (.cells #[.slice A L c] 30)).alloc (.cells #[.int .i64 0, .string ⟨#[]⟩, .string ⟨#[]⟩, .string ⟨#[]⟩, .string ⟨#[]⟩, .string ⟨#[]⟩, .slice none 0 0] 33)) W → Calls Tryz.prog 140 #[.pointer none, .agg #[p0, p1], .func (.func 141) #[] #[.pointer (some ⟨w.heap.size + 1, 0, none⟩), .pointer (some ⟨w.heap.size, 0, none⟩)]] W (RetO W S O)) := (show ∀ _, _ from fun W hw => recallO p0 p1 _ _ O W S (HSY.out.later hw.size) ho0 ho1 (fun W' hw' => by
  have hc := chain2 hw hw' (Nat.le_refl _)
  rw [← hO]
  exact quoteAll1 l A c (w.heap.size + 1) w.heap.size W' S (HSY.out.later hc.size) (by rw [hL]; exact (hc.cell (p := ⟨w.heap.size + 1, 0, none⟩) HL0.out.2).trans hl) ((hc.cell (p := ⟨w.heap.size, 0, none⟩) HM0.out.2).trans hm) (hay.below HSY.out hc) hn (fun x hx W3 b k cs hW3 hq => ke x hx W3 b k cs (hA.trans ((chain2 hc hW3 (Nat.le_refl _)).mono hA.size)) hq)))
 have HB4 := hI r4
 have HAA := hI hA
 have HZ := hI hz
 have HS := hI hS
 clear hA r0 r1 r4 hz hm hl hay PC0 ep ho0 ho1 ha hS ke hL hn hO
 go_enter Tryz.func113, Tryz.ntmps113
 go_upto_region 1 with fail
 generalize (((w.alloc (.cells #[.pointer none] 109)).alloc (.cells #[.slice A L c] 30)).alloc (.cells #[.int .i64 0, .string ⟨#[]⟩, .string ⟨#[]⟩, .string ⟨#[]⟩, .string ⟨#[]⟩, .string ⟨#[]⟩, .slice none 0 0] 33)) = Y at *
 refine wp_region_grow (l := _) 5 (by kernel_rfl) (by kernel_rfl) (fun i => [5, 6, 7, 8, 9].getD i 0) (LR [LV (.pointer none), LV (.slice A L c), LV (.agg #[p0, p1]), LV (.func (.func 141) #[] #[.pointer (some ⟨w.heap.size + 1, 0, none⟩), .pointer (some ⟨w.heap.size, 0, none⟩)]), LQ Y S O]) (LR_mono ⟨mLV _, mLV _, mLV _, mLV _, mLQ HSY.out _, trivial⟩) (by
  intro i j hi hj h
  exact inj_getD [5, 6, 7, 8, 9] (by decide) i j hi hj h) (by
  intro i hi
  exact lt_getD 10 [5, 6, 7, 8, 9] (by decide) i hi) ?step ?done
 case step =>
  intro ii hii a w9 v lo hi' hoth hb hw
  have sl2 : a.tmps[2]? = some (.pointer (some ⟨w.heap.size, 0, none⟩)) := (hoth 2 (fun j hj => ne_getD 2 _ (by decide) j hj)).trans rfl
  have sl3 : a.tmps[3]? = some (.pointer (some ⟨w.heap.size + 1, 0, none⟩)) := (hoth 3 (fun j hj => ne_getD 3 _ (by decide) j hj)).trans rfl
  match ii, hii with
  | 0, _ =>
   have cc := (hb.cell (p := ⟨w.heap.size, 0, none⟩) HM0.out.2).trans HM0.out.1
   refine wpOp_step rfl fun K' hK' => ?_
   rw [if_pos (wanted_plain rfl)]
   unfold Oper.wp
   simp only [execOp]
   go_simp
   exact hK' _ _ ⟨_, rfl, Below.refl _ _, rfl⟩
  | 1, _ =>
   have cc := (hb.cell (p := ⟨w.heap.size + 1, 0, none⟩) HL0.out.2).trans HL0.out.1
   refine wpOp_step rfl fun K' hK' => ?_
   rw [if_pos (wanted_plain rfl)]
   unfold Oper.wp
   simp only [execOp]
   go_simp
   exact hK' _ _ ⟨_, rfl, Below.refl _ _, rfl⟩
  | 2, _ =>
   obtain ⟨s0, r0, _⟩ := hw 1 (by omega) (by kernel_rfl)
   have e0 : v 1 = .slice A L c := r0
   rw [e0] at s0
   replace s0 : a.tmps[6]? = some (.slice A L c) := s0
   refine gw_t rfl (wanted_plain rfl) 104 6 _ _ rfl (fun v w => by go_simp) s0 ?_
   with_reducible refine (PC.out w9 hb).mono ?_
   rintro e w3 ⟨rfl, hb3⟩
   exact ⟨_, rfl, _, rfl, hb3, rfl⟩
  | 3, _ =>
   refine wpOp_step rfl fun K' hK' => ?_
   rw [if_pos (wanted_plain rfl)]
   unfold Oper.wp
   simp only [execOp]
   simp only [Instr.makeFunc]
   go_simp
   exact hK' _ _ ⟨_, rfl, Below.refl _ _, rfl⟩
  | 4, _ =>
   obtain ⟨s0, r0, _⟩ := hw 0 (by omega) (by kernel_rfl)
   have e0 : v 0 = .pointer none := r0
   rw [e0] at s0
   replace s0 : a.tmps[5]? = some (.pointer none) := s0
   obtain ⟨s1, r1, _⟩ := hw 2 (by omega) (by kernel_rfl)
   have e1 : v 2 = .agg #[p0, p1] := r1
   rw [e1] at s1
   replace s1 : a.tmps[7]? = some (.agg #[p0, p1]) := s1
   obtain ⟨s2, r2, _⟩ := hw 3 (by omega) (by kernel_rfl)
   have e2 : v 3 = .func (.func 141) #[] #[.pointer (some ⟨w.heap.size + 1, 0, none⟩), .pointer (some ⟨w.heap.size, 0, none⟩)] := r2
   rw [e2] at s2
   replace s2 : a.tmps[8]? = some (.func (.func 141) #[] #[.pointer (some ⟨w.heap.size + 1, 0, none⟩), .pointer (some ⟨w.heap.size, 0, none⟩)]) := s2
   refine gw_ttt rfl (wanted_plain rfl) 140 5 7 8 _ _ _ _ rfl (fun v u x w => by go_simp) s0 s1 s2 ?_
   with_reducible refine (RCC.out w9 hb).mono ?_
   rintro e w3 ⟨p3, rfl, h3, hb3⟩
   exact ⟨_, rfl, _, rfl, hb3, Nat.le_trans hb.size hb3.size, p3, rfl, h3.more (fun b hb0 => up3 (Below.refl _ Y) hb b hb0)⟩
 case done =>
  intro a w9 v lo hi' hdef hsz hoth hb hj hap
  obtain ⟨_, ⟨hz4, p4, hv4, h4⟩, hlo4, hhi4⟩ := hj 4 (by omega)
  have ha := eq_puts hdef hsz hoth (fun i hi => (hj i hi).1)
  subst ha
  clear hj hoth hdef hsz hap
  simp only [puts, List.getD_cons_zero, List.getD_cons_succ, hv4]
  generalize v 0 = v0
  generalize v 1 = v1
  generalize v 2 = v2
  generalize v 3 = v3
  clear hv4
  simp only [Act.put, List.setIfInBounds_toArray, List.set_cons_zero, List.set_cons_succ]
  show wpList _ _ _ [_] _ _
  have h4b := (hb.block (w.heap.size + 1 + 1) (by have := HZ.out; omega)).trans HB4.out
  have HB9 : Hid (Below w.heap.size w w9) := HAA.out.trans (hb.mono HAA.out.size)
  clear hb RCC PC
  go_wp2_with ((with_reducible refine storeV rfl (.tmp 4) (.tmp 9) rfl _ O p4 rfl rfl h4 _ _ h4b rfl ?_))
  try simp only [Act.put]
  exact retV (w0 := w) (S := S) rfl rfl h4b h4 (fun h => by
   rcases h with h | h
   · have := HS.out _ h; omega
   · have := HZ.out; omega) (fun b hb0 => by
   have := HZ.out
   rcases hb0 with h | h
   · exact .inl h
   · exact .inr ⟨by omega, h.2⟩) (by omega) HB9.out
theorem quoteStep (t : Tm) (b k : Nat) (cs : List Value) (w : World) (S : Nat → Prop) (hS : In S w) (hQ : TmQ w S t b k cs) (hn : t.nodes ≤ 3000)
 (ih : ∀ x ∈ t.args, ∀ (W : World) (b k : Nat) (cs : List Value), Below w.heap.size w W → TmQ W S x b k cs → Calls Tryz.prog 88 #[.pointer none, .pointer (some ⟨b, k, none⟩)] W (RetO W S (quO x))) :
 Calls Tryz.prog 88 #[.pointer none, .pointer (some ⟨b, k, none⟩)] w (RetO w S (quO t)) := by
 have hA : Below w.heap.size w (w.alloc (.cells #[.int .i64 0, .string ⟨#[]⟩, .string ⟨#[]⟩, .string ⟨#[]⟩, .string ⟨#[]⟩, .string ⟨#[]⟩, .slice none 0 0] 33)) := below_alT w _
 have r4 : (w.alloc (.cells #[.int .i64 0, .string ⟨#[]⟩, .string ⟨#[]⟩, .string ⟨#[]⟩, .string ⟨#[]⟩, .string ⟨#[]⟩, .slice none 0 0] 33)).heap[w.heap.size]? = some (.cells #[.int .i64 0, .string ⟨#[]⟩, .string ⟨#[]⟩, .string ⟨#[]⟩, .string ⟨#[]⟩, .string ⟨#[]⟩, .slice none 0 0] 33 (0, 0)) := heap_alloc_new w _
 have hz : (w.alloc (.cells #[.int .i64 0, .string ⟨#[]⟩, .string ⟨#[]⟩, .string ⟨#[]⟩, .string ⟨#[]⟩, .string ⟨#[]⟩, .slice none 0 0] 33)).heap.size = w.heap.size + 1 := by simp
 have HSY : Hid (In S (w.alloc (.cells #[.int .i64 0, .string ⟨#[]⟩, .string ⟨#[]⟩, .string ⟨#[]⟩, .string ⟨#[]⟩, .string ⟨#[]⟩, .slice none 0 0] 33))) := hS.later hA.size
 have hQ2 := hQ.below hS hA
 obtain ⟨x0, x1, x2, x3, x4, x5, x6, A, c, _, _, _, l0, l1, l2, l3, l4, l5, l6, l7, l8, l9, l10⟩ := (hQ2.p HSY.out).cells
 have hcs := hQ2.2.1
 have hcc := hQ2.2.2
 have HLB : Hid (b < (w.alloc (.cells #[.int .i64 0, .string ⟨#[]⟩, .string ⟨#[]⟩, .string ⟨#[]⟩, .string ⟨#[]⟩, .string ⟨#[]⟩, .slice none 0 0] 33)).heap.size) := hQ2.1.1
 have HB4 := hI r4
 have HAA := hI hA
 have HZ := hI hz
 have HS := hI hS
 have KE : Hid (∀ x ∈ t.args, ∀ (W : World) (b k : Nat) (cs : List Value), Below (w.alloc (.cells #[.int .i64 0, .string ⟨#[]⟩, .string ⟨#[]⟩, .string ⟨#[]⟩, .string ⟨#[]⟩, .string ⟨#[]⟩, .slice none 0 0] 33)).heap.size (w.alloc (.cells #[.int .i64 0, .string ⟨#[]⟩, .string ⟨#[]⟩, .string ⟨#[]⟩, .string ⟨#[]⟩, .string ⟨#[]⟩, .slice none 0 0] 33)) W → TmQ W S x b k cs → Calls Tryz.prog 88 #[.pointer none, .pointer (some ⟨b, k, none⟩)] W (RetO W S (quO x))) := (show ∀ _, _ from fun x hx W b k cs hW hq => ih x hx W b k cs (hA.trans (hW.mono hA.size)) hq)
 clear ih hS hA r4 hz hQ
 go_enter Tryz.func88, Tryz.ntmps88
 go_upto_region 1 with fail
 generalize (w.alloc (.cells #[.int .i64 0, .string ⟨#[]⟩, .string ⟨#[]⟩, .string ⟨#[]⟩, .string ⟨#[]⟩, .string ⟨#[]⟩, .slice none 0 0] 33)) = Y at *
 cases t with
 | var s =>
  change _ = some (Value.int .i64 1) at l0
  have hr : quO (.var s) = .sym (LA s.1) (LA s.2) := rfl
  have HREQ := hI hr
  change _ = some (Value.string s.1) at l1
  change _ = some (Value.string s.2) at l2
  clear hcs hcc KE l3 l4 l5 l6 l7 l8 l9 l10
  go_wp2_with fail
  with_reducible refine (symP s.1 s.2 Y S).mono ?_
  rintro e w9 ⟨r, rfl, hr9, hb⟩
  generalize Ob.sym (LA s.1) (LA s.2) = o at *
  have h4b := (hb.block w.heap.size (by have := HZ.out; omega)).trans HB4.out
  have HB9 : Hid (Below w.heap.size w w9) := HAA.out.trans (hb.mono HAA.out.size)
  clear hb
  go_wp2_with ((with_reducible refine storeV rfl (.tmp 4) (.tmp 15) rfl _ o r rfl rfl hr9 _ _ h4b rfl ?_))
  try simp only [Act.put]
  rw [HREQ.out]
  exact retV (w0 := w) (S := S) rfl rfl h4b hr9 (fun h => by
   rcases h with h | h
   · have := HS.out _ h; omega
   · have := HZ.out; omega) (fun b hb0 => by
   have := HZ.out
   rcases hb0 with h | h
   · exact .inl h
   · exact .inr ⟨by omega, h.2⟩) (Nat.le_refl _) HB9.out
 | con o =>
  change _ = some (Value.int .i64 2) at l0
  have hcs' := hcs
  unfold TmAt at hcs'
  obtain ⟨po, ecs, hpo⟩ := hcs'
  have hev : [x0, x1, x2, x3, x4, x5, x6] = cellsO o po := by
   have hl := cellsO_length o po
   have hget : ∀ j, j < 7 → ∃ u, (cellsO o po)[j]? = some u ∧ Y.cell? ⟨b, k + (3 + j), none⟩ = some u := fun j hj => by
    refine ⟨(cellsO o po)[j]'(by omega), List.getElem?_eq_getElem _, hcc (3 + j) _ ?_⟩
    rw [ecs]
    unfold cellsT
    rw [show 3 + j = j + 1 + 1 + 1 from by omega]
    simp only [List.getElem?_cons_succ]
    rw [List.getElem?_append_left (by omega)]
    exact List.getElem?_eq_getElem _
   have hone : ∀ j x, j < 7 → Y.cell? ⟨b, k + (3 + j), none⟩ = some x → (cellsO o po)[j]? = some x := fun j x hj hx => by
    obtain ⟨u, h1, h2⟩ := hget j hj
    rw [hx] at h2
    injection h2 with h2
    rw [h1, h2]
   refine (List.ext_getElem? fun j => ?_).symm
   rcases Nat.lt_or_ge j 7 with hj | hj
   · match j, hj with
     | 0, _ => exact hone 0 x0 (by omega) l3
     | 1, _ => exact hone 1 x1 (by omega) l4
     | 2, _ => exact hone 2 x2 (by omega) l5
     | 3, _ => exact hone 3 x3 (by omega) l6
     | 4, _ => exact hone 4 x4 (by omega) l7
     | 5, _ => exact hone 5 x5 (by omega) l8
     | 6, _ => exact hone 6 x6 (by omega) l9
   · rw [List.getElem?_eq_none (by omega), List.getElem?_eq_none (by simpa using hj)]
  have hr : quO (.con o) = Ob.list [qS, o] := rfl
  have HREQ := hI hr
  have HEV := hI hev
  have HPO := hI hpo
  have V0 := hI l3
  have V1 := hI l4
  have V2 := hI l5
  have V3 := hI l6
  have V4 := hI l7
  have V5 := hI l8
  have V6 := hI l9
  clear hcs hcc ecs hpo hev KE l1 l2 l3 l4 l5 l6 l7 l8 l9 l10 hr
  go_wp2_with fail
  refine wp_region_grow (l := _) 8 (by kernel_rfl) (by kernel_rfl) (fun i => [18, 19, 20, 21, 22, 23, 24, 25].getD i 0) (LR [LV (.agg #[.string ⟨#[108, 105, 115, 112]⟩, .string ⟨#[113, 117, 111, 116, 101]⟩]), LQ Y S qS, LV (.pointer (some ⟨b, k, none⟩)), LV (.pointer (some ⟨b, k, none⟩)), LV (.pointer (some ⟨b, k + 3, none⟩)), LV (.agg #[x0, x1, x2, x3, x4, x5, x6]), LQ2 Y S qS o, LQ Y S (Ob.list [qS, o])]) (LR_mono ⟨mLV _, mLQ HSY.out _, mLV _, mLV _, mLV _, mLV _, mLQ2 HSY.out _ _, mLQ HSY.out _, trivial⟩) (by
   intro i j hi hj h
   exact inj_getD [18, 19, 20, 21, 22, 23, 24, 25] (by decide) i j hi hj h) (by
   intro i hi
   exact lt_getD 41 [18, 19, 20, 21, 22, 23, 24, 25] (by decide) i hi) ?step ?done
  case step =>
   intro ii hii a w9 v lo hi' hoth hb hw
   have sl0 : a.tmps[0]? = some (.pointer none) := (hoth 0 (fun j hj => ne_getD 0 _ (by decide) j hj)).trans rfl
   have sl1 : a.tmps[1]? = some (.pointer (some ⟨b, k, none⟩)) := (hoth 1 (fun j hj => ne_getD 1 _ (by decide) j hj)).trans rfl
   match ii, hii with
   | 0, _ =>
    refine gw_c rfl (wanted_plain rfl) 70  _ _ rfl (fun v w => by go_simp)  ?_
    with_reducible refine (lispT _ w9).mono ?_
    rintro e w3 ⟨rfl, hb3⟩
    exact ⟨_, rfl, _, rfl, hb3, rfl⟩
   | 1, _ =>
    obtain ⟨s0, r0, _⟩ := hw 0 (by omega) (by kernel_rfl)
    have e0 : v 0 = .agg #[.string ⟨#[108, 105, 115, 112]⟩, .string ⟨#[113, 117, 111, 116, 101]⟩] := r0
    rw [e0] at s0
    replace s0 : a.tmps[18]? = some (.agg #[.string ⟨#[108, 105, 115, 112]⟩, .string ⟨#[113, 117, 111, 116, 101]⟩]) := s0
    refine gw_t rfl (wanted_plain rfl) 110 18 _ _ rfl (fun v w => by go_simp) s0 ?_
    with_reducible refine ((symP ⟨#[108, 105, 115, 112]⟩ ⟨#[113, 117, 111, 116, 101]⟩ w9 S)).mono ?_
    rintro e w3 ⟨p3, rfl, h3, hb3⟩
    exact ⟨_, rfl, _, rfl, hb3, Nat.le_trans hb.size hb3.size, p3, rfl, h3.more (fun b hb0 => up3 (Below.refl _ Y) hb b hb0)⟩
   | 2, _ =>
    exact gw_move rfl (wanted_plain rfl) 1 _ rfl sl1 ⟨_, rfl, Below.refl _ _, rfl⟩
   | 3, _ =>
    obtain ⟨s0, r0, _⟩ := hw 2 (by omega) (by kernel_rfl)
    have e0 : v 2 = .pointer (some ⟨b, k, none⟩) := r0
    rw [e0] at s0
    replace s0 : a.tmps[20]? = some (.pointer (some ⟨b, k, none⟩)) := s0
    refine wpOp_step rfl fun K' hK' => ?_
    rw [if_pos (wanted_plain rfl)]
    unfold Oper.wp
    simp only [execOp]
    go_simp
    exact hK' _ _ ⟨_, rfl, Below.refl _ _, rfl⟩
   | 4, _ =>
    obtain ⟨s0, r0, _⟩ := hw 3 (by omega) (by kernel_rfl)
    have e0 : v 3 = .pointer (some ⟨b, k, none⟩) := r0
    rw [e0] at s0
    replace s0 : a.tmps[21]? = some (.pointer (some ⟨b, k, none⟩)) := s0
    refine wpOp_step rfl fun K' hK' => ?_
    rw [if_pos (wanted_plain rfl)]
    unfold Oper.wp
    simp only [execOp]
    go_simp
    exact hK' _ _ ⟨_, rfl, Below.refl _ _, rfl⟩
   | 5, _ =>
    obtain ⟨s0, r0, _⟩ := hw 4 (by omega) (by kernel_rfl)
    have e0 : v 4 = .pointer (some ⟨b, k + 3, none⟩) := r0
    rw [e0] at s0
    replace s0 : a.tmps[22]? = some (.pointer (some ⟨b, k + 3, none⟩)) := s0
    have ck0 := (hb.cell (p := ⟨b, k + 3, none⟩) HLB.out).trans V0.out
    have ck1 := (hb.cell (p := ⟨b, k + 4, none⟩) HLB.out).trans V1.out
    have ck2 := (hb.cell (p := ⟨b, k + 5, none⟩) HLB.out).trans V2.out
    have ck3 := (hb.cell (p := ⟨b, k + 6, none⟩) HLB.out).trans V3.out
    have ck4 := (hb.cell (p := ⟨b, k + 7, none⟩) HLB.out).trans V4.out
    have ck5 := (hb.cell (p := ⟨b, k + 8, none⟩) HLB.out).trans V5.out
    have ck6 := (hb.cell (p := ⟨b, k + 9, none⟩) HLB.out).trans V6.out
    refine wpOp_step rfl fun K' hK' => ?_
    rw [if_pos (wanted_plain rfl)]
    unfold Oper.wp
    simp only [execOp]
    go_simp
    exact hK' _ _ ⟨_, rfl, Below.refl _ _, rfl⟩
   | 6, _ =>
    obtain ⟨s0, r0, b0⟩ := hw 1 (by omega) (by kernel_rfl)
    obtain ⟨hz0, p0, e0, h0⟩ := r0
    rw [e0] at s0
    replace s0 : a.tmps[19]? = some (vO qS p0) := s0
    obtain ⟨a0, a1, a2, a3, a4, a5, ec⟩ := cells7 qS p0
    rw [vO_cells ec] at s0
    obtain ⟨s1, r1, _⟩ := hw 5 (by omega) (by kernel_rfl)
    have e1 : v 5 = .agg #[x0, x1, x2, x3, x4, x5, x6] := r1
    rw [e1] at s1
    replace s1 : a.tmps[23]? = some (.agg #[x0, x1, x2, x3, x4, x5, x6]) := s1
    refine wpOp_step rfl fun K' hK' => ?_
    rw [if_pos (wanted_plain rfl)]
    unfold Oper.wp
    simp only [execOp]
    go_simp
    have hbl := below_alT w9 (.cells (cellsO qS p0 ++ cellsO o po).toArray 33)
    have hrow := heap_alloc_new w9 (.cells (cellsO qS p0 ++ cellsO o po).toArray 33)
    have hsz : w9.heap.size < (w9.alloc (.cells (cellsO qS p0 ++ cellsO o po).toArray 33)).heap.size := by simp
    have hq := (h0.keep (fun _ h => h) (fun b hb' => hbl.block b (upto_lt HSY.out hb.size b hb'))).more (fun b hb' => upto_more hbl.size b hb')
    have ho := ((HPO.out.below HSY.out (hb.trans (hbl.mono hb.size)))).more (fun b hb' => (show Upto Y (w9.alloc (.cells (cellsO qS p0 ++ cellsO o po).toArray 33)) S b from .inl hb'))
    rw [ec, ← HEV.out] at hbl hrow hq ho hsz
    exact hK' _ _ ⟨_, rfl, hbl, Nat.le_trans hb.size hbl.size, p0, po, rfl, by rw [ec, ← HEV.out]; exact hrow, hsz, hb.size, hq, ho⟩
   | 7, _ =>
    obtain ⟨s0, r0, b0⟩ := hw 6 (by omega) (by kernel_rfl)
    obtain ⟨hz0, p0, q0, e0, hrow0, hlt0, hge0, h0, hh0⟩ := r0
    rw [e0] at s0
    have hlt9 : lo 6 < w9.heap.size := lt_of_heap hrow0
    have hob : ObsAt w9 (Upto Y w9 S) (lo 6) 0 [qS, o] := obsAt_row [(qS, p0), (o, q0)] 0 (fun x hx => by
     rcases List.mem_cons.1 hx with rfl | hx
     · exact h0
     · obtain rfl : x = (o, q0) := by simpa using hx
       exact hh0) (fun j u hj => by
     rw [Nat.zero_add, cell_of_row _ _ _ _ _ _ hrow0]
     simpa [flatC] using hj)
    have LC0 := listP [qS, o] (some ⟨lo 6, 0, none⟩) 2 w9 (Upto Y w9 S) (HSY.out.upto hb.size) (Nat.le_refl _) (by simp) (fun _ => ⟨_, _, rfl, .inr ⟨hge0, hlt9⟩, hob⟩)
    rw [show ([qS, o] : List Ob).length = 2 from rfl] at LC0
    refine gw_t rfl (wanted_plain rfl) 111 24 _ _ rfl (fun v w => by go_simp) s0 ?_
    with_reducible refine (LC0).mono ?_
    rintro e w3 ⟨p3, rfl, h3, hb3⟩
    exact ⟨_, rfl, _, rfl, hb3, Nat.le_trans hb.size hb3.size, p3, rfl, h3.more (fun b hb0 => upto_two hb.size hb3.size b hb0)⟩
  case done =>
   intro a w9 v lo hi' hdef hsz hoth hb hj hap
   obtain ⟨_, ⟨hz7, p4, hv7, h4⟩, hlo7, hhi7⟩ := hj 7 (by omega)
   have ha := eq_puts hdef hsz hoth (fun i hi => (hj i hi).1)
   subst ha
   clear hj hoth hdef hsz hap
   simp only [puts, List.getD_cons_zero, List.getD_cons_succ, hv7]
   generalize v 0 = v0
   generalize v 1 = v1
   generalize v 2 = v2
   generalize v 3 = v3
   generalize v 4 = v4
   generalize v 5 = v5
   generalize v 6 = v6
   clear hv7
   simp only [Act.put, List.setIfInBounds_toArray, List.set_cons_zero, List.set_cons_succ]
   show wpList _ _ _ [_] _ _
   generalize Ob.list [qS, o] = oo at *
   have h4b := (hb.block w.heap.size (by have := HZ.out; omega)).trans HB4.out
   have HB9 : Hid (Below w.heap.size w w9) := HAA.out.trans (hb.mono HAA.out.size)
   clear hb
   go_wp2_with ((with_reducible refine storeV rfl (.tmp 4) (.tmp 25) rfl _ oo p4 rfl rfl h4 _ _ h4b rfl ?_))
   try simp only [Act.put]
   rw [HREQ.out]
   exact retV (w0 := w) (S := S) rfl rfl h4b h4 (fun h => by
    rcases h with h | h
    · have := HS.out _ h; omega
    · have := HZ.out; omega) (fun b hb0 => by
    have := HZ.out
    rcases hb0 with h | h
    · exact .inl h
    · exact .inr ⟨by omega, h.2⟩) (Nat.le_refl _) HB9.out
 | app s l =>
  change _ = some (Value.int .i64 3) at l0
  change _ = some (Value.string s.1) at l1
  change _ = some (Value.string s.2) at l2
  have hcs' := hcs
  unfold TmAt at hcs'
  obtain ⟨A', c', ecs, hlc, har⟩ := hcs'
  have e10 := hcc 10 (.slice A' l.length c') (by rw [ecs]; rfl)
  have hl10 : Y.cell? ⟨b, k + 10, none⟩ = some (.slice A l.length c) := l10
  obtain ⟨rfl, rfl⟩ : A' = A ∧ c' = c := by
   rw [hl10] at e10
   injection e10 with e10
   injection e10 with h1 h2 h3
   exact ⟨h1.symm, h3.symm⟩
  have hargs : ArgsAt Y S l A' c' := ⟨hlc, har⟩
  have hln : l.length ≤ 3000 := by
   have h1 := Tm.nodesL_len l
   have h2 : (Tm.app s l).nodes = 1 + Tm.nodesL l := by unfold Tm.nodes; rfl
   omega
  have hr : quO (.app s l) = .cons (.sym (LA s.1) (LA s.2)) (Ob.list (l.map quO)) := by unfold quO; rw [quOs_map]
  have QA0 : ∀ w9, Below Y.heap.size Y w9 → Calls Tryz.prog 113 #[.pointer none, .slice A' l.length c'] w9 (RetO w9 S (Ob.list (l.map quO))) := fun w9 hb => quoteAllT l A' c' w9 S (HSY.out.later hb.size) (hargs.below HSY.out hb) hln (fun x hx W b k cs hW hq => KE.out x hx W b k cs (hb.trans (hW.mono hb.size)) hq)
  obtain ⟨OS, hOS⟩ : ∃ OS, Ob.list (l.map quO) = OS := ⟨_, rfl⟩
  rw [hOS] at QA0 hr
  have HREQ := hI hr
  obtain ⟨L, hL⟩ : ∃ L, l.length = L := ⟨_, rfl⟩
  rw [hL] at QA0 hl10 hlc
  have QAC := hI QA0
  have N1 := hI l1
  have N2 := hI l2
  have N10 := hI hl10
  clear hcs hcc KE l1 l2 l3 l4 l5 l6 l7 l8 l9 l10 hr QA0 hOS hL hln hargs har ecs e10 hl10 hQ2 hn
  go_wp2_with fail
  refine wp_region_grow (l := _) 12 (by kernel_rfl) (by kernel_rfl) (fun i => [28, 29, 30, 31, 32, 33, 34, 35, 36, 37, 38, 39].getD i 0) (LR [LV (.pointer (some ⟨b, k, none⟩)), LV (.pointer (some ⟨b, k, none⟩)), LV (.pointer (some ⟨b, k + 1, none⟩)), LV (.agg #[.string s.1, .string s.2]), LQ Y S (.sym (LA s.1) (LA s.2)), LV (.pointer none), LV (.pointer (some ⟨b, k, none⟩)), LV (.pointer (some ⟨b, k, none⟩)), LV (.pointer (some ⟨b, k + 10, none⟩)), LV (.slice A' L c'), LQ Y S OS, LQ Y S (.cons (.sym (LA s.1) (LA s.2)) OS)]) (LR_mono ⟨mLV _, mLV _, mLV _, mLV _, mLQ HSY.out _, mLV _, mLV _, mLV _, mLV _, mLV _, mLQ HSY.out _, mLQ HSY.out _, trivial⟩) (by
   intro i j hi hj h
   exact inj_getD [28, 29, 30, 31, 32, 33, 34, 35, 36, 37, 38, 39] (by decide) i j hi hj h) (by
   intro i hi
   exact lt_getD 41 [28, 29, 30, 31, 32, 33, 34, 35, 36, 37, 38, 39] (by decide) i hi) ?step ?done
  case step =>
   intro ii hii a w9 v lo hi' hoth hb hw
   have sl0 : a.tmps[0]? = some (.pointer none) := (hoth 0 (fun j hj => ne_getD 0 _ (by decide) j hj)).trans rfl
   have sl1 : a.tmps[1]? = some (.pointer (some ⟨b, k, none⟩)) := (hoth 1 (fun j hj => ne_getD 1 _ (by decide) j hj)).trans rfl
   match ii, hii with
   | 0, _ =>
    exact gw_move rfl (wanted_plain rfl) 1 _ rfl sl1 ⟨_, rfl, Below.refl _ _, rfl⟩
   | 1, _ =>
    obtain ⟨s0, r0, _⟩ := hw 0 (by omega) (by kernel_rfl)
    have e0 : v 0 = .pointer (some ⟨b, k, none⟩) := r0
    rw [e0] at s0
    replace s0 : a.tmps[28]? = some (.pointer (some ⟨b, k, none⟩)) := s0
    refine wpOp_step rfl fun K' hK' => ?_
    rw [if_pos (wanted_plain rfl)]
    unfold Oper.wp
    simp only [execOp]
    go_simp
    exact hK' _ _ ⟨_, rfl, Below.refl _ _, rfl⟩
   | 2, _ =>
    obtain ⟨s0, r0, _⟩ := hw 1 (by omega) (by kernel_rfl)
    have e0 : v 1 = .pointer (some ⟨b, k, none⟩) := r0
    rw [e0] at s0
    replace s0 : a.tmps[29]? = some (.pointer (some ⟨b, k, none⟩)) := s0
    refine wpOp_step rfl fun K' hK' => ?_
    rw [if_pos (wanted_plain rfl)]
    unfold Oper.wp
    simp only [execOp]
    go_simp
    exact hK' _ _ ⟨_, rfl, Below.refl _ _, rfl⟩
   | 3, _ =>
    obtain ⟨s0, r0, _⟩ := hw 2 (by omega) (by kernel_rfl)
    have e0 : v 2 = .pointer (some ⟨b, k + 1, none⟩) := r0
    rw [e0] at s0
    replace s0 : a.tmps[30]? = some (.pointer (some ⟨b, k + 1, none⟩)) := s0
    have ck1 := (hb.cell (p := ⟨b, k + 1, none⟩) HLB.out).trans N1.out
    have ck2 := (hb.cell (p := ⟨b, k + 2, none⟩) HLB.out).trans N2.out
    refine wpOp_step rfl fun K' hK' => ?_
    rw [if_pos (wanted_plain rfl)]
    unfold Oper.wp
    simp only [execOp]
    go_simp
    exact hK' _ _ ⟨_, rfl, Below.refl _ _, rfl⟩
   | 4, _ =>
    obtain ⟨s0, r0, _⟩ := hw 3 (by omega) (by kernel_rfl)
    have e0 : v 3 = .agg #[.string s.1, .string s.2] := r0
    rw [e0] at s0
    replace s0 : a.tmps[31]? = some (.agg #[.string s.1, .string s.2]) := s0
    refine gw_t rfl (wanted_plain rfl) 110 31 _ _ rfl (fun v w => by go_simp) s0 ?_
    with_reducible refine ((symP s.1 s.2 w9 S)).mono ?_
    rintro e w3 ⟨p3, rfl, h3, hb3⟩
    exact ⟨_, rfl, _, rfl, hb3, Nat.le_trans hb.size hb3.size, p3, rfl, h3.more (fun b hb0 => up3 (Below.refl _ Y) hb b hb0)⟩
   | 5, _ =>
    exact gw_move rfl (wanted_plain rfl) 0 _ rfl sl0 ⟨_, rfl, Below.refl _ _, rfl⟩
   | 6, _ =>
    exact gw_move rfl (wanted_plain rfl) 1 _ rfl sl1 ⟨_, rfl, Below.refl _ _, rfl⟩
   | 7, _ =>
    obtain ⟨s0, r0, _⟩ := hw 6 (by omega) (by kernel_rfl)
    have e0 : v 6 = .pointer (some ⟨b, k, none⟩) := r0
    rw [e0] at s0
    replace s0 : a.tmps[34]? = some (.pointer (some ⟨b, k, none⟩)) := s0
    refine wpOp_step rfl fun K' hK' => ?_
    rw [if_pos (wanted_plain rfl)]
    unfold Oper.wp
    simp only [execOp]
    go_simp
    exact hK' _ _ ⟨_, rfl, Below.refl _ _, rfl⟩
   | 8, _ =>
    obtain ⟨s0, r0, _⟩ := hw 7 (by omega) (by kernel_rfl)
    have e0 : v 7 = .pointer (some ⟨b, k, none⟩) := r0
    rw [e0] at s0
    replace s0 : a.tmps[35]? = some (.pointer (some ⟨b, k, none⟩)) := s0
    refine wpOp_step rfl fun K' hK' => ?_
    rw [if_pos (wanted_plain rfl)]
    unfold Oper.wp
    simp only [execOp]
    go_simp
    exact hK' _ _ ⟨_, rfl, Below.refl _ _, rfl⟩
   | 9, _ =>
    obtain ⟨s0, r0, _⟩ := hw 8 (by omega) (by kernel_rfl)
    have e0 : v 8 = .pointer (some ⟨b, k + 10, none⟩) := r0
    rw [e0] at s0
    replace s0 : a.tmps[36]? = some (.pointer (some ⟨b, k + 10, none⟩)) := s0
    have ck10 := (hb.cell (p := ⟨b, k + 10, none⟩) HLB.out).trans N10.out
    refine wpOp_step rfl fun K' hK' => ?_
    rw [if_pos (wanted_plain rfl)]
    unfold Oper.wp
    simp only [execOp]
    go_simp
    exact hK' _ _ ⟨_, rfl, Below.refl _ _, rfl⟩
   | 10, _ =>
    obtain ⟨s0, r0, _⟩ := hw 5 (by omega) (by kernel_rfl)
    have e0 : v 5 = .pointer none := r0
    rw [e0] at s0
    replace s0 : a.tmps[33]? = some (.pointer none) := s0
    obtain ⟨s1, r1, _⟩ := hw 9 (by omega) (by kernel_rfl)
    have e1 : v 9 = .slice A' L c' := r1
    rw [e1] at s1
    replace s1 : a.tmps[37]? = some (.slice A' L c') := s1
    refine gw_tt rfl (wanted_plain rfl) 113 33 37 _ _ _ rfl (fun v u w => by go_simp) s0 s1 ?_
    with_reducible refine (QAC.out w9 hb).mono ?_
    rintro e w3 ⟨p3, rfl, h3, hb3⟩
    exact ⟨_, rfl, _, rfl, hb3, Nat.le_trans hb.size hb3.size, p3, rfl, h3.more (fun b hb0 => up3 (Below.refl _ Y) hb b hb0)⟩
   | 11, _ =>
    obtain ⟨s0, r0, b0⟩ := hw 4 (by omega) (by kernel_rfl)
    obtain ⟨hz0, p0, e0, h0⟩ := r0
    rw [e0] at s0
    obtain ⟨s1, r1, b1⟩ := hw 10 (by omega) (by kernel_rfl)
    obtain ⟨hz1, p1, e1, h1⟩ := r1
    rw [e1] at s1
    refine gw_tt rfl (wanted_plain rfl) 112 32 38 _ _ _ rfl (fun v u w => by go_simp) s0 s1 ?_
    with_reducible refine ((consP (.sym (LA s.1) (LA s.2)) OS p0 p1 w9 (Upto Y w9 S) (HSY.out.upto hb.size) h0 h1)).mono ?_
    rintro e w3 ⟨p3, rfl, h3, hb3⟩
    exact ⟨_, rfl, _, rfl, hb3, Nat.le_trans hb.size hb3.size, p3, rfl, h3.more (fun b hb0 => upto_two hb.size hb3.size b hb0)⟩
  case done =>
   intro a w9 v lo hi' hdef hsz hoth hb hj hap
   obtain ⟨_, ⟨hz11, p4, hv11, h4⟩, hlo11, hhi11⟩ := hj 11 (by omega)
   have ha := eq_puts hdef hsz hoth (fun i hi => (hj i hi).1)
   subst ha
   clear hj hoth hdef hsz hap
   simp only [puts, List.getD_cons_zero, List.getD_cons_succ, hv11]
   generalize v 0 = v0
   generalize v 1 = v1
   generalize v 2 = v2
   generalize v 3 = v3
   generalize v 4 = v4
   generalize v 5 = v5
   generalize v 6 = v6
   generalize v 7 = v7
   generalize v 8 = v8
   generalize v 9 = v9
   generalize v 10 = v10
   clear hv11
   simp only [Act.put, List.setIfInBounds_toArray, List.set_cons_zero, List.set_cons_succ]
   show wpList _ _ _ [_] _ _
   generalize Ob.cons (Ob.sym (LA s.1) (LA s.2)) OS = oo at *
   have h4b := (hb.block w.heap.size (by have := HZ.out; omega)).trans HB4.out
   have HB9 : Hid (Below w.heap.size w w9) := HAA.out.trans (hb.mono HAA.out.size)
   clear hb
   go_wp2_with ((with_reducible refine storeV rfl (.tmp 4) (.tmp 39) rfl _ oo p4 rfl rfl h4 _ _ h4b rfl ?_))
   try simp only [Act.put]
   rw [HREQ.out]
   exact retV (w0 := w) (S := S) rfl rfl h4b h4 (fun h => by
    rcases h with h | h
    · have := HS.out _ h; omega
    · have := HZ.out; omega) (fun b hb0 => by
    have := HZ.out
    rcases hb0 with h | h
    · exact .inl h
    · exact .inr ⟨by omega, h.2⟩) (Nat.le_refl _) HB9.out
theorem quoteT : ∀ (t : Tm) (b k : Nat) (cs : List Value) (w : World) (S : Nat → Prop), In S w → TmQ w S t b k cs → t.nodes ≤ 3000 → Calls Tryz.prog 88 #[.pointer none, .pointer (some ⟨b, k, none⟩)] w (RetO w S (quO t)) := by
 intro t
 induction t using Tm.indA with
 | h t ih =>
  intro b k cs w S hS hQ hn
  exact quoteStep t b k cs w S hS hQ hn (fun x hx W b k cs hW hq => ih x hx b k cs W S (hS.later hW.size) hq (by have := Tm.nodes_mem hx; have := t.nodes_args; omega))
theorem quoteTop (t : Tm) (cs : List Value) (w : World) (S : Nat → Prop) (hS : In S w) (h : TmAt w S t cs) (hn : t.nodes ≤ 3000) :
 Calls Tryz.prog 51 #[vTm cs] w (RetO w S (quO t)) := by
 have h1 := h
 obtain ⟨x0, x1, x2, x3, x4, x5, x6, A, c, rfl, _, _⟩ := h1.eleven
 have hA : Below w.heap.size w ((w.alloc (.cells #[.int .i64 t.kd, .string t.nm.1, .string t.nm.2, x0, x1, x2, x3, x4, x5, x6, .slice A t.args.length c] 35)).alloc (.cells #[.int .i64 0, .string ⟨#[]⟩, .string ⟨#[]⟩, .string ⟨#[]⟩, .string ⟨#[]⟩, .string ⟨#[]⟩, .slice none 0 0] 33)) := Below.alloc (Below.alloc (Below.refl _ _) (Nat.le_refl _) _) (by simp) _
 have B1 : TB ((w.alloc (.cells #[.int .i64 t.kd, .string t.nm.1, .string t.nm.2, x0, x1, x2, x3, x4, x5, x6, .slice A t.args.length c] 35)).alloc (.cells #[.int .i64 0, .string ⟨#[]⟩, .string ⟨#[]⟩, .string ⟨#[]⟩, .string ⟨#[]⟩, .string ⟨#[]⟩, .slice none 0 0] 33)) w.heap.size [.int .i64 t.kd, .string t.nm.1, .string t.nm.2, x0, x1, x2, x3, x4, x5, x6, .slice A t.args.length c] := (Below.heap_alloc _ _ _ (by simp)).trans (heap_alloc_new w _)
 have r2 : ((w.alloc (.cells #[.int .i64 t.kd, .string t.nm.1, .string t.nm.2, x0, x1, x2, x3, x4, x5, x6, .slice A t.args.length c] 35)).alloc (.cells #[.int .i64 0, .string ⟨#[]⟩, .string ⟨#[]⟩, .string ⟨#[]⟩, .string ⟨#[]⟩, .string ⟨#[]⟩, .slice none 0 0] 33)).heap[w.heap.size + 1]? = some (.cells #[.int .i64 0, .string ⟨#[]⟩, .string ⟨#[]⟩, .string ⟨#[]⟩, .string ⟨#[]⟩, .string ⟨#[]⟩, .slice none 0 0] 33 (0, 0)) := heap_new_at (by simp)
 have hz : ((w.alloc (.cells #[.int .i64 t.kd, .string t.nm.1, .string t.nm.2, x0, x1, x2, x3, x4, x5, x6, .slice A t.args.length c] 35)).alloc (.cells #[.int .i64 0, .string ⟨#[]⟩, .string ⟨#[]⟩, .string ⟨#[]⟩, .string ⟨#[]⟩, .string ⟨#[]⟩, .slice none 0 0] 33)).heap.size = w.heap.size + 2 := by simp
 have HSY : Hid (In S ((w.alloc (.cells #[.int .i64 t.kd, .string t.nm.1, .string t.nm.2, x0, x1, x2, x3, x4, x5, x6, .slice A t.args.length c] 35)).alloc (.cells #[.int .i64 0, .string ⟨#[]⟩, .string ⟨#[]⟩, .string ⟨#[]⟩, .string ⟨#[]⟩, .string ⟨#[]⟩, .slice none 0 0] 33))) := hS.later hA.size
 have hQ : TmQ ((w.alloc (.cells #[.int .i64 t.kd, .string t.nm.1, .string t.nm.2, x0, x1, x2, x3, x4, x5, x6, .slice A t.args.length c] 35)).alloc (.cells #[.int .i64 0, .string ⟨#[]⟩, .string ⟨#[]⟩, .string ⟨#[]⟩, .string ⟨#[]⟩, .string ⟨#[]⟩, .slice none 0 0] 33)) S t w.heap.size 0 [.int .i64 t.kd, .string t.nm.1, .string t.nm.2, x0, x1, x2, x3, x4, x5, x6, .slice A t.args.length c] := ⟨⟨by omega, _, _, B1⟩, h.below hS hA, B1.cell⟩
 have MC := hI (memForO (.int .i64 0) (.string ⟨#[]⟩) (.string ⟨#[]⟩) (.string ⟨#[]⟩) (.string ⟨#[]⟩) (.string ⟨#[]⟩) (.slice none 0 0) t w.heap.size 0 _ ((w.alloc (.cells #[.int .i64 t.kd, .string t.nm.1, .string t.nm.2, x0, x1, x2, x3, x4, x5, x6, .slice A t.args.length c] 35)).alloc (.cells #[.int .i64 0, .string ⟨#[]⟩, .string ⟨#[]⟩, .string ⟨#[]⟩, .string ⟨#[]⟩, .string ⟨#[]⟩, .slice none 0 0] 33)) (hQ.p HSY.out) hn)
 have QC : Hid (∀ W, Below ((w.alloc (.cells #[.int .i64 t.kd, .string t.nm.1, .string t.nm.2, x0, x1, x2, x3, x4, x5, x6, .slice A t.args.length c] 35)).alloc (.cells #[.int .i64 0, .string ⟨#[]⟩, .string ⟨#[]⟩, .string ⟨#[]⟩, .string ⟨#[]⟩, .string ⟨#[]⟩, .slice none 0 0] 33)).heap.size ((w.alloc (.cells #[.int .i64 t.kd, .string t.nm.1, .string t.nm.2, x0, x1, x2, x3, x4, x5, x6, .slice A t.args.length c] 35)).alloc (.cells #[.int .i64 0, .string ⟨#[]⟩, .string ⟨#[]⟩, .string ⟨#[]⟩, .string ⟨#[]⟩, .string ⟨#[]⟩, .slice none 0 0] 33)) W → Calls Tryz.prog 88 #[.pointer none, .pointer (some ⟨w.heap.size, 0, none⟩)] W (RetO W S (quO t))) := (show ∀ _, _ from fun W hw => quoteT t w.heap.size 0 _ W S (HSY.out.later hw.size) (hQ.below HSY.out hw) hn)
 have HR2 := hI r2
 have HZ := hI hz
 have HA := hI hA
 have HS := hI hS
 unfold vTm
 obtain ⟨oo, hoo⟩ : ∃ oo, quO t = oo := ⟨_, rfl⟩
 rw [hoo] at QC ⊢
 clear h hA B1 r2 hz hQ hS hn hoo
 generalize t.kd = kd at *
 go_enter Tryz.func51, Tryz.ntmps51
 go_upto_region 1 with fail
 generalize ((w.alloc (.cells #[.int .i64 kd, .string t.nm.1, .string t.nm.2, x0, x1, x2, x3, x4, x5, x6, .slice A t.args.length c] 35)).alloc (.cells #[.int .i64 0, .string ⟨#[]⟩, .string ⟨#[]⟩, .string ⟨#[]⟩, .string ⟨#[]⟩, .string ⟨#[]⟩, .slice none 0 0] 33)) = Y at *
 go_wp2_with fail
 refine MC.out.mono ?_
 rintro e w3 ⟨rfl, hb3⟩
 have QC3 := hI (QC.out w3 hb3)
 have HB3 := hI hb3
 clear hb3 QC MC
 go_wp2_with fail
 refine QC3.out.mono ?_
 rintro e w4 ⟨r, rfl, hr, hb4⟩
 have hy4 : Below Y.heap.size Y w4 := chain2 HB3.out hb4 (Nat.le_refl _)
 have h2 := (hy4.block (w.heap.size + 1) (by have := HZ.out; omega)).trans HR2.out
 have HB4 : Hid (Below w.heap.size w w4) := HA.out.trans (hy4.mono HA.out.size)
 have h3s := HB3.out.size
 have hyz := HZ.out
 go_wp2_with ((with_reducible refine storeV rfl (.tmp 2) (.tmp 5) rfl _ oo r rfl rfl hr _ _ h2 rfl ?_))
 try simp only [Act.put]
 exact retV (w0 := w) (S := S) rfl rfl h2 hr (fun h => by
  rcases h with h | h
  · have := HS.out _ h; omega
  · omega) (fun b hb0 => by
  rcases hb0 with h | h
  · exact .inl h
  · exact .inr ⟨by omega, h.2⟩) (by omega) HB4.out
theorem MkQ.one {S : Nat → Prop} {Y ws : World} {o : Ob} {p : Value} (hb : Below Y.heap.size Y ws) (hp : Pair ws (Upto Y ws S) o p) (hS : In S Y) : MkQ S Y (ws.alloc (.cells (cellsO o p).toArray 33)) [o] (.slice (some ⟨ws.heap.size, 0, none⟩) 1 1) [(o, p)] := by
 have hl := cellsO_length o p
 refine ⟨rfl, ⟨by simp [flatC, hl], .inr ⟨ws.heap.size, 1, _, rfl, hb.size, heap_alloc_new ws _, Nat.le_refl _, (by decide), by simp [hl], by simp [flatC]; exact List.take_of_length_le (by omega)⟩⟩, fun x hx => ?_, hb.trans ((below_alT ws _).mono hb.size)⟩
 obtain rfl : x = (o, p) := by simpa using hx
 have hbs := hb.size
 refine hp.keep (fun b hb' => ?_) (fun b hb' => (below_alT ws _).block b (upto_lt hS hbs b hb'))
 have hlt := upto_lt hS hbs b hb'
 refine ⟨?_, by simp only [World.size_alloc]; omega, fun e => ?_⟩
 · rcases hb' with h0 | h0
   · exact .inl h0
   · exact .inr h0.1
 · have e2 : ws.heap.size = b := by simpa [Value.ownBlock] using e
   omega
theorem quoteR : ∀ (t : Tm) (w : World) (S : Nat → Prop) (cs : List Value), In S w → TmAt w S t cs → t.nodes ≤ 3000 → Calls Tryz.prog 54 #[vTm cs] w (RetO w S (quO t)) := by
 intro t
 induction t using Tm.indA with
 | h t ih =>
  intro w S cs hS h hn
  have h1 := h
  obtain ⟨x0, x1, x2, x3, x4, x5, x6, A, c, rfl, hva, har⟩ := h1.eleven
  have hA : Below w.heap.size w ((w.alloc (.cells #[.int .i64 t.kd, .string t.nm.1, .string t.nm.2, x0, x1, x2, x3, x4, x5, x6, .slice A t.args.length c] 35)).alloc (.cells #[.int .i64 0, .string ⟨#[]⟩, .string ⟨#[]⟩, .string ⟨#[]⟩, .string ⟨#[]⟩, .string ⟨#[]⟩, .slice none 0 0] 33)) := Below.alloc (Below.alloc (Below.refl _ _) (Nat.le_refl _) _) (by simp) _
  have HB1 : Hid (TB ((w.alloc (.cells #[.int .i64 t.kd, .string t.nm.1, .string t.nm.2, x0, x1, x2, x3, x4, x5, x6, .slice A t.args.length c] 35)).alloc (.cells #[.int .i64 0, .string ⟨#[]⟩, .string ⟨#[]⟩, .string ⟨#[]⟩, .string ⟨#[]⟩, .string ⟨#[]⟩, .slice none 0 0] 33)) w.heap.size [.int .i64 t.kd, .string t.nm.1, .string t.nm.2, x0, x1, x2, x3, x4, x5, x6, .slice A t.args.length c]) := (Below.heap_alloc _ _ _ (by simp)).trans (heap_alloc_new w _)
  have r2 : ((w.alloc (.cells #[.int .i64 t.kd, .string t.nm.1, .string t.nm.2, x0, x1, x2, x3, x4, x5, x6, .slice A t.args.length c] 35)).alloc (.cells #[.int .i64 0, .string ⟨#[]⟩, .string ⟨#[]⟩, .string ⟨#[]⟩, .string ⟨#[]⟩, .string ⟨#[]⟩, .slice none 0 0] 33)).heap[w.heap.size + 1]? = some (.cells #[.int .i64 0, .string ⟨#[]⟩, .string ⟨#[]⟩, .string ⟨#[]⟩, .string ⟨#[]⟩, .string ⟨#[]⟩, .slice none 0 0] 33 (0, 0)) := heap_new_at (by simp)
  have hz : ((w.alloc (.cells #[.int .i64 t.kd, .string t.nm.1, .string t.nm.2, x0, x1, x2, x3, x4, x5, x6, .slice A t.args.length c] 35)).alloc (.cells #[.int .i64 0, .string ⟨#[]⟩, .string ⟨#[]⟩, .string ⟨#[]⟩, .string ⟨#[]⟩, .string ⟨#[]⟩, .slice none 0 0] 33)).heap.size = w.heap.size + 2 := by simp
  have HSY : Hid (In S ((w.alloc (.cells #[.int .i64 t.kd, .string t.nm.1, .string t.nm.2, x0, x1, x2, x3, x4, x5, x6, .slice A t.args.length c] 35)).alloc (.cells #[.int .i64 0, .string ⟨#[]⟩, .string ⟨#[]⟩, .string ⟨#[]⟩, .string ⟨#[]⟩, .string ⟨#[]⟩, .slice none 0 0] 33))) := hS.later hA.size
  have HAR : Hid (ArgsAt ((w.alloc (.cells #[.int .i64 t.kd, .string t.nm.1, .string t.nm.2, x0, x1, x2, x3, x4, x5, x6, .slice A t.args.length c] 35)).alloc (.cells #[.int .i64 0, .string ⟨#[]⟩, .string ⟨#[]⟩, .string ⟨#[]⟩, .string ⟨#[]⟩, .string ⟨#[]⟩, .slice none 0 0] 33)) S t.args A c) := har.below hS hA
  have IH : Hid (∀ x ∈ t.args, ∀ X cx, Below ((w.alloc (.cells #[.int .i64 t.kd, .string t.nm.1, .string t.nm.2, x0, x1, x2, x3, x4, x5, x6, .slice A t.args.length c] 35)).alloc (.cells #[.int .i64 0, .string ⟨#[]⟩, .string ⟨#[]⟩, .string ⟨#[]⟩, .string ⟨#[]⟩, .string ⟨#[]⟩, .slice none 0 0] 33)).heap.size ((w.alloc (.cells #[.int .i64 t.kd, .string t.nm.1, .string t.nm.2, x0, x1, x2, x3, x4, x5, x6, .slice A t.args.length c] 35)).alloc (.cells #[.int .i64 0, .string ⟨#[]⟩, .string ⟨#[]⟩, .string ⟨#[]⟩, .string ⟨#[]⟩, .string ⟨#[]⟩, .slice none 0 0] 33)) X → TmAt X S x cx → Calls Tryz.prog 54 #[vTm cx] X (RetO X S (quO x))) := (show ∀ _, _ from fun x hx X cx hX hx2 => ih x hx X S cx (HSY.out.later hX.size) hx2 (by have := Tm.nodes_mem hx; have := t.nodes_args; omega))
  have HR2 := hI r2
  have HZ := hI hz
  have HAA := hI hA
  have HS := hI hS
  unfold vTm
  obtain ⟨L, hL⟩ : ∃ L, t.args.length = L := ⟨_, rfl⟩
  have HL := hI hL
  have hL3 : L ≤ 3000 := by have := t.nodes_args; have := Tm.nodesL_len t.args; omega
  have hle := har.1
  rw [hL] at HB1 HAR IH HR2 HZ HAA HSY hle ⊢
  clear h hA r2 hz ih hn hL har
  go_enter Tryz.func54, Tryz.ntmps54
  go_upto_region 1 with fail
  generalize ((w.alloc (.cells #[.int .i64 t.kd, .string t.nm.1, .string t.nm.2, x0, x1, x2, x3, x4, x5, x6, .slice A L c] 35)).alloc (.cells #[.int .i64 0, .string ⟨#[]⟩, .string ⟨#[]⟩, .string ⟨#[]⟩, .string ⟨#[]⟩, .string ⟨#[]⟩, .slice none 0 0] 33)) = Y at *
  have k0 := TB.cell HB1.out 0 _ rfl
  cases t with
  | var s =>
   replace k0 : Y.cell? ⟨w.heap.size, 0, none⟩ = some (.int .i64 1) := k0
   have k1 : Y.cell? ⟨w.heap.size, 1, none⟩ = some (.string s.1) := TB.cell HB1.out 1 _ rfl
   have k2 : Y.cell? ⟨w.heap.size, 2, none⟩ = some (.string s.2) := TB.cell HB1.out 2 _ rfl
   have hr : quO (.var s) = .sym (LA s.1) (LA s.2) := rfl
   have HREQ := hI hr
   go_wp2_with fail
   with_reducible refine (symO s.1 s.2 Y S).mono ?_
   rintro e w9 ⟨r, rfl, hr9, hb⟩
   generalize Ob.sym (LA s.1) (LA s.2) = o at *
   have h4b := (hb.block (w.heap.size + 1) (by have := HZ.out; omega)).trans HR2.out
   have HB9 : Hid (Below w.heap.size w w9) := HAA.out.trans (hb.mono HAA.out.size)
   have hys9 := hb.size
   have hyz9 := HZ.out
   go_wp2_with ((with_reducible refine storeV rfl (.tmp 2) (.tmp 11) rfl _ o r rfl rfl hr9 _ _ h4b rfl ?_))
   try simp only [Act.put]
   rw [HREQ.out]
   exact retV (w0 := w) (S := S) rfl rfl h4b hr9 (fun h => by
    rcases h with h | h
    · have := HS.out _ h; omega
    · omega) (fun b hb0 => by
    rcases hb0 with h | h
    · exact .inl h
    · exact .inr ⟨by omega, h.2⟩) (by omega) HB9.out
  | con o =>
   replace k0 : Y.cell? ⟨w.heap.size, 0, none⟩ = some (.int .i64 2) := k0
   obtain ⟨po, hev, hpo⟩ := hva
   have hr : quO (.con o) = Ob.list [qS, o] := rfl
   have HREQ := hI hr
   have HEV := hI hev
   have HPO : Hid (Pair Y S o po) := hpo.below HS.out HAA.out
   clear hev hpo hr IH HAR
   go_wp2_with fail
   refine wp_region_grow (l := _) 6 (by kernel_rfl) (by kernel_rfl) (fun i => [14, 15, 16, 17, 18, 19].getD i 0) (LR [LV (.agg #[.string (BA lispB), .string ⟨#[113, 117, 111, 116, 101]⟩]), LQ Y S qS, LV (.pointer (some ⟨w.heap.size, 3, none⟩)), LV (.agg #[x0, x1, x2, x3, x4, x5, x6]), LQ2 Y S qS o, LQ Y S (Ob.list [qS, o])]) (LR_mono ⟨mLV _, mLQ HSY.out _, mLV _, mLV _, mLQ2 HSY.out _ _, mLQ HSY.out _, trivial⟩) (by
    intro i j hi hj h
    exact inj_getD [14, 15, 16, 17, 18, 19] (by decide) i j hi hj h) (by
    intro i hi
    exact lt_getD 42 [14, 15, 16, 17, 18, 19] (by decide) i hi) ?step ?done
   case step =>
    intro ii hii a w9 v lo hi' hoth hb hw
    have sl1 : a.tmps[1]? = some (.pointer (some ⟨w.heap.size, 0, none⟩)) := (hoth 1 (fun j hj => ne_getD 1 _ (by decide) j hj)).trans rfl
    match ii, hii with
    | 0, _ =>
     refine gw_c rfl (wanted_plain rfl) 71  _ _ rfl (fun v w => by go_simp)  ?_
     with_reducible refine (lispO _ w9).mono ?_
     rintro e w3 ⟨rfl, hb3⟩
     exact ⟨_, rfl, _, rfl, hb3, rfl⟩
    | 1, _ =>
     obtain ⟨s0, r0, _⟩ := hw 0 (by omega) (by kernel_rfl)
     have e0 : v 0 = .agg #[.string (BA lispB), .string ⟨#[113, 117, 111, 116, 101]⟩] := r0
     rw [e0] at s0
     replace s0 : a.tmps[14]? = some (.agg #[.string (BA lispB), .string ⟨#[113, 117, 111, 116, 101]⟩]) := s0
     refine gw_t rfl (wanted_plain rfl) 62 14 _ _ rfl (fun v w => by go_simp) s0 ?_
     with_reducible refine ((symO (BA lispB) ⟨#[113, 117, 111, 116, 101]⟩ w9 S)).mono ?_
     rintro e w3 ⟨p3, rfl, h3, hb3⟩
     exact ⟨_, rfl, _, rfl, hb3, Nat.le_trans hb.size hb3.size, p3, rfl, h3.more (fun b hb0 => up3 (Below.refl _ Y) hb b hb0)⟩
    | 2, _ =>
     refine wpOp_step rfl fun K' hK' => ?_
     rw [if_pos (wanted_plain rfl)]
     unfold Oper.wp
     simp only [execOp]
     go_simp
     exact hK' _ _ ⟨_, rfl, Below.refl _ _, rfl⟩
    | 3, _ =>
     obtain ⟨s0, r0, _⟩ := hw 2 (by omega) (by kernel_rfl)
     have e0 : v 2 = .pointer (some ⟨w.heap.size, 3, none⟩) := r0
     rw [e0] at s0
     replace s0 : a.tmps[16]? = some (.pointer (some ⟨w.heap.size, 3, none⟩)) := s0
     have HBB := HB1.out.keep hb
     have ck0 : w9.cell? ⟨w.heap.size, 3, none⟩ = some x0 := TB.cell HBB 3 _ rfl
     have ck1 : w9.cell? ⟨w.heap.size, 4, none⟩ = some x1 := TB.cell HBB 4 _ rfl
     have ck2 : w9.cell? ⟨w.heap.size, 5, none⟩ = some x2 := TB.cell HBB 5 _ rfl
     have ck3 : w9.cell? ⟨w.heap.size, 6, none⟩ = some x3 := TB.cell HBB 6 _ rfl
     have ck4 : w9.cell? ⟨w.heap.size, 7, none⟩ = some x4 := TB.cell HBB 7 _ rfl
     have ck5 : w9.cell? ⟨w.heap.size, 8, none⟩ = some x5 := TB.cell HBB 8 _ rfl
     have ck6 : w9.cell? ⟨w.heap.size, 9, none⟩ = some x6 := TB.cell HBB 9 _ rfl
     refine wpOp_step rfl fun K' hK' => ?_
     rw [if_pos (wanted_plain rfl)]
     unfold Oper.wp
     simp only [execOp]
     go_simp
     exact hK' _ _ ⟨_, rfl, Below.refl _ _, rfl⟩
    | 4, _ =>
     obtain ⟨s0, r0, b0⟩ := hw 1 (by omega) (by kernel_rfl)
     obtain ⟨hz0, p0, e0, h0⟩ := r0
     rw [e0] at s0
     replace s0 : a.tmps[15]? = some (vO qS p0) := s0
     obtain ⟨a0, a1, a2, a3, a4, a5, ec⟩ := cells7 qS p0
     rw [vO_cells ec] at s0
     obtain ⟨s1, r1, _⟩ := hw 3 (by omega) (by kernel_rfl)
     have e1 : v 3 = .agg #[x0, x1, x2, x3, x4, x5, x6] := r1
     rw [e1] at s1
     replace s1 : a.tmps[17]? = some (.agg #[x0, x1, x2, x3, x4, x5, x6]) := s1
     refine wpOp_step rfl fun K' hK' => ?_
     rw [if_pos (wanted_plain rfl)]
     unfold Oper.wp
     simp only [execOp]
     go_simp
     have hbl := below_alT w9 (.cells (cellsO qS p0 ++ cellsO o po).toArray 33)
     have hrow := heap_alloc_new w9 (.cells (cellsO qS p0 ++ cellsO o po).toArray 33)
     have hsz : w9.heap.size < (w9.alloc (.cells (cellsO qS p0 ++ cellsO o po).toArray 33)).heap.size := by simp
     have hq := (h0.keep (fun _ h => h) (fun b hb' => hbl.block b (upto_lt HSY.out hb.size b hb'))).more (fun b hb' => upto_more hbl.size b hb')
     have ho := ((HPO.out.below HSY.out (hb.trans (hbl.mono hb.size)))).more (fun b hb' => (show Upto Y (w9.alloc (.cells (cellsO qS p0 ++ cellsO o po).toArray 33)) S b from .inl hb'))
     rw [ec, ← HEV.out] at hbl hrow hq ho hsz
     exact hK' _ _ ⟨_, rfl, hbl, Nat.le_trans hb.size hbl.size, p0, po, rfl, by rw [ec, ← HEV.out]; exact hrow, hsz, hb.size, hq, ho⟩
    | 5, _ =>
     obtain ⟨s0, r0, b0⟩ := hw 4 (by omega) (by kernel_rfl)
     obtain ⟨hz0, p0, q0, e0, hrow0, hlt0, hge0, h0, hh0⟩ := r0
     rw [e0] at s0
     have hlt9 : lo 4 < w9.heap.size := lt_of_heap hrow0
     have hob : ObsAt w9 (Upto Y w9 S) (lo 4) 0 [qS, o] := obsAt_row [(qS, p0), (o, q0)] 0 (fun x hx => by
      rcases List.mem_cons.1 hx with rfl | hx
      · exact h0
      · obtain rfl : x = (o, q0) := by simpa using hx
        exact hh0) (fun j u hj => by
      rw [Nat.zero_add, cell_of_row _ _ _ _ _ _ hrow0]
      simpa [flatC] using hj)
     have LC0 := listO [qS, o] (some ⟨lo 4, 0, none⟩) 2 w9 (Upto Y w9 S) (HSY.out.upto hb.size) (Nat.le_refl _) (by simp) (fun _ => ⟨_, _, rfl, .inr ⟨hge0, hlt9⟩, hob⟩)
     rw [show ([qS, o] : List Ob).length = 2 from rfl] at LC0
     refine gw_t rfl (wanted_plain rfl) 67 18 _ _ rfl (fun v w => by go_simp) s0 ?_
     with_reducible refine (LC0).mono ?_
     rintro e w3 ⟨p3, rfl, h3, hb3⟩
     exact ⟨_, rfl, _, rfl, hb3, Nat.le_trans hb.size hb3.size, p3, rfl, h3.more (fun b hb0 => upto_two hb.size hb3.size b hb0)⟩
   case done =>
    intro a w9 v lo hi' hdef hsz hoth hb hj hap
    obtain ⟨_, ⟨hz5, p4, hv5, h4⟩, hlo5, hhi5⟩ := hj 5 (by omega)
    have ha := eq_puts hdef hsz hoth (fun i hi => (hj i hi).1)
    subst ha
    clear hj hoth hdef hsz hap
    simp only [puts, List.getD_cons_zero, List.getD_cons_succ, hv5]
    generalize v 0 = v0
    generalize v 1 = v1
    generalize v 2 = v2
    generalize v 3 = v3
    generalize v 4 = v4
    clear hv5
    simp only [Act.put, List.setIfInBounds_toArray, List.set_cons_zero, List.set_cons_succ]
    show wpList _ _ _ [_] _ _
    generalize Ob.list [qS, o] = oo at *
    have h4b := (hb.block (w.heap.size + 1) (by have := HZ.out; omega)).trans HR2.out
    have HB9 : Hid (Below w.heap.size w w9) := HAA.out.trans (hb.mono HAA.out.size)
    have hys9 := hb.size
    have hyz9 := HZ.out
    go_wp2_with ((with_reducible refine storeV rfl (.tmp 2) (.tmp 19) rfl _ oo p4 rfl rfl h4 _ _ h4b rfl ?_))
    try simp only [Act.put]
    rw [HREQ.out]
    exact retV (w0 := w) (S := S) rfl rfl h4b h4 (fun h => by
     rcases h with h | h
     · have := HS.out _ h; omega
     · omega) (fun b hb0 => by
     rcases hb0 with h | h
     · exact .inl h
     · exact .inr ⟨by omega, h.2⟩) (by omega) HB9.out
  | app s l =>
   replace k0 : Y.cell? ⟨w.heap.size, 0, none⟩ = some (.int .i64 3) := k0
   have k1 : Y.cell? ⟨w.heap.size, 1, none⟩ = some (.string s.1) := TB.cell HB1.out 1 _ rfl
   have k2 : Y.cell? ⟨w.heap.size, 2, none⟩ = some (.string s.2) := TB.cell HB1.out 2 _ rfl
   obtain ⟨sy, hsy⟩ : ∃ sy, Ob.sym (LA s.1) (LA s.2) = sy := ⟨_, rfl⟩
   have hr : quO (.app s l) = Ob.list (sy :: l.map quO) := by
    unfold quO
    rw [quOs_map, hsy]
    rfl
   have HREQ := hI hr
   have HAL : Hid (ArgsAt Y S l A c) := HAR.out
   have HLL : Hid (l.length = L) := HL.out
   obtain ⟨i0, hi0, hz0, hz1, hz2⟩ := infoO8
   have HI0 := hI hi0
   have HZ0 := hI hz0
   have HZ1 := hI hz1
   have HZ2 := hI hz2
   have SYC := symO s.1 s.2 Y S
   rw [hsy] at SYC
   have HSC := hI SYC
   clear hi0 hz0 hz1 hz2 hr SYC hsy HAR HL hva
   go_wp2_with fail
   refine HSC.out.mono ?_
   rintro e w3 ⟨r, rfl, hr3, hb3⟩
   have M1 := MkQ.one hb3 hr3 HSY.out
   obtain ⟨a0, a1, a2, a3, a4, a5, ec⟩ := cells7 sy r
   rw [vO_cells ec]
   rw [ec] at M1
   have h0 : Hid (∃ xs, MkQ S Y (w3.alloc (.cells #[a0, a1, a2, a3, a4, a5, r] 33)) (sy :: (l.take 0).map quO) (.slice (some ⟨w3.heap.size, 0, none⟩) 1 1) xs) := ⟨_, M1⟩
   have q10 : (w3.alloc (.cells #[a0, a1, a2, a3, a4, a5, r] 33)).cell? ⟨w.heap.size, 10, none⟩ = some (.slice A L c) := TB.cell (HB1.out.keep M1.bel) 10 _ rfl
   clear M1 hr3 hb3 ec k0 k1 k2 HSC
   go_wp2_with fail
   clear q10
   go_loopw [3, 4] (fun u v wr => ∃ (i : Nat) (sl : Value), sl = u ∧ i ≤ L ∧ v = .int .i64 (i : Int) ∧ Hid (∃ xs, MkQ S Y wr (sy :: (l.take i).map quO) sl xs)) (fun _ v _ => L - (intOf v).toNat)
   case atStart => exact ⟨0, _, rfl, Nat.zero_le _, rfl, h0⟩
   case round =>
    clear h0
    obtain ⟨i, sl, rfl, hiL, rfl, hE⟩ := hrel
    obtain ⟨wo, rfl⟩ : ∃ wo : World, wo = wr := ⟨_, rfl⟩
    obtain ⟨xs, hM⟩ := hE.out
    have hbel := hM.bel
    have hs1 := hbel.size
    have j10 : wo.cell? ⟨w.heap.size, 10, none⟩ = some (.slice A L c) := TB.cell (HB1.out.keep hbel) 10 _ rfl
    by_cases hlt : i < L
    · have hil : i < l.length := by rw [HLL.out]; exact hlt
      obtain ⟨ba, oa, cx, rfl, hP⟩ := HAL.out.arg hil
      have hP' := hP.below HSY.out hbel
      have htm : l[i] ∈ (Tm.app s l).args := List.getElem_mem hil
      have HTK : Hid ((l.take (i + 1)).map quO = (l.take i).map quO ++ [quO l[i]]) := (show _ = _ by rw [List.take_add_one, List.getElem?_eq_getElem hil, List.map_append]; rfl)
      have HLN : Hid ((sy :: (l.take i).map quO).length = i + 1) := (show _ = _ by simp; omega)
      generalize l[i] = x at *
      obtain ⟨z0, z1, z2, z3, z4, z5, z6, A5, c5, rfl, hvx, har2, k0, k1, k2, k3, k4, k5, k6, k7, k8, k9, k10⟩ := hP'.cells
      have CALL : Hid (Calls Tryz.prog 54 #[.agg #[.int .i64 x.kd, .string x.nm.1, .string x.nm.2, z0, z1, z2, z3, z4, z5, z6, .slice A5 x.args.length c5]] wo (RetO wo S (quO x))) := IH.out x htm wo _ hbel hP'.2.1
      have HMK := hI hM
      clear hP hP' htm hvx har2 hE hM
      go_wp2_with fail
      refine CALL.out.mono ?_
      rintro e w4 ⟨r, rfl, hr4, hb4⟩
      obtain ⟨a0, a1, a2, a3, a4, a5, ec⟩ := cells7 (quO x) r
      rw [vO_cells ec]
      have hba : Below wo.heap.size wo (w4.alloc (.cells #[a0, a1, a2, a3, a4, a5, r] 33)) := hb4.trans ((below_alT w4 _).mono hb4.size)
      have hr5 : Pair (w4.alloc (.cells #[a0, a1, a2, a3, a4, a5, r] 33)) (Upto wo (w4.alloc (.cells #[a0, a1, a2, a3, a4, a5, r] 33)) S) (quO x) r := (hr4.keep (fun _ h => h) (fun b hb' => (below_alT w4 _).block b (upto_lt (HSY.out.later hs1) hb4.size b hb'))).more (fun b hb' => upto_more (below_alT w4 _).size b hb')
      have own3 := hI (HMK.out.below hba).own
      rw [HLN.out] at own3
      have hone : ∀ u ∈ [a0, a1, a2, a3, a4, a5, r], u.oneCell' = true := by
       have h := hr4.one
       rw [ec, Array.all_eq_true_iff_forall_mem] at h
       intro u hu
       exact h u (by simpa using hu)
      have HSTEP : Hid (∀ v' w5, w5.ownsRow Y.heap.size 33 7 v' (i + 1 + 1) (flatC xs ++ [a0, a1, a2, a3, a4, a5, r]) → (w4.alloc (.cells #[a0, a1, a2, a3, a4, a5, r] 33)).grownBy w5 sl.ownBlock → (v'.ownBlock = sl.ownBlock ∨ v'.ownBlock = some (w4.alloc (.cells #[a0, a1, a2, a3, a4, a5, r] 33)).heap.size) → ∃ xs', MkQ S Y w5 (sy :: (l.take (i + 1)).map quO) v' xs') :=
       (show ∀ _, _ from fun v' w5 h4 hg hat => ⟨_, by rw [HTK.out]; exact HMK.out.step2 HSY.out hba hr5 (by rw [HLN.out, ec]; exact h4) hg hat⟩)
      have hrow : (w4.alloc (.cells #[a0, a1, a2, a3, a4, a5, r] 33)).heap[w4.heap.size]? = some (.cells #[a0, a1, a2, a3, a4, a5, r] 33 (0, 0)) := heap_alloc_new w4 _
      have HNEWS : Hid (∀ j u, [a0, a1, a2, a3, a4, a5, r][j]? = some u → (w4.alloc (.cells #[a0, a1, a2, a3, a4, a5, r] 33)).cell? ((⟨w4.heap.size, 0, none⟩ : Addr).add j) = some u) := news_at hrow
      have hs3 : Y.heap.size ≤ (w4.alloc (.cells #[a0, a1, a2, a3, a4, a5, r] 33)).heap.size := by have := hba.size; omega
      have HONE := hI hone
      clear hr4 hb4 hr5 hba CALL HMK hrow ec hone HTK j10 k0 k1 k2 k3 k4 k5 k6 k7 k8 k9 k10 hbel
      go_wp2_with (at_builtin; refine wpList_append_own_at _ rfl (.tmp 31) (.tmp 38) _ rfl Y.heap.size 33 i0 _ 7 112 Tryz.underlying31 HI0.out HZ0.out HZ1.out HZ2.out rfl (by omega) sl (i + 1) (flatC xs) rfl own3.out ⟨w4.heap.size, 0, none⟩ 1 1 [a0, a1, a2, a3, a4, a5, r] rfl rfl HNEWS.out HONE.out (by simp only [maxLen]; omega) (by omega) hs3 ?_; intro v4 w5 hown4 hg4 hnil4 hat4; have hst := hI (HSTEP.out v4 w5 hown4 hg4 hat4); clear hown4 hg4 hnil4 hat4)
      go_roundw
      case rel => exact ⟨i + 1, _, rfl, by omega, by go_num, hst⟩
      case measure => simp [intOf]; omega
    · have hiL2 : i = L := by omega
      have hn2 : ¬ (i : Int) < L := by omega
      obtain ⟨os, hos⟩ : ∃ os, sy :: l.map quO = os := ⟨_, rfl⟩
      have hM2 : MkQ S Y wo os sl xs := by
       have h := hM
       rw [hiL2, ← HLL.out, List.take_length, hos] at h
       exact h
      have hol : os.length = L + 1 := by rw [← hos, List.length_cons, List.length_map, HLL.out]
      obtain ⟨Ao, co, rfl, hco, hoo⟩ := hM2.slice
      have LC0 := listO os Ao co wo (Upto Y wo S) (HSY.out.upto hs1) hco (by rw [hol]; omega) hoo
      rw [hos] at HREQ
      obtain ⟨n, hn⟩ : ∃ n, os.length = n := ⟨_, rfl⟩
      rw [hn] at LC0 ⊢
      obtain ⟨o8, ho8⟩ : ∃ o, Ob.list os = o := ⟨_, rfl⟩
      rw [ho8] at LC0 HREQ
      have LC := hI LC0
      have HBE := hI hbel
      clear hE hM hM2 hlt hoo LC0 hol hco hos hn ho8
      go_wp2_with fail
      refine LC.out.mono ?_
      rintro e w9 ⟨r, rfl, hr9, hb9⟩
      have hY9 : Below Y.heap.size Y w9 := HBE.out.trans (hb9.mono HBE.out.size)
      have hs99 := hb9.size
      have h4b := (hY9.block (w.heap.size + 1) (by have := HZ.out; omega)).trans HR2.out
      have HB9 : Hid (Below w.heap.size w w9) := HAA.out.trans (hY9.mono HAA.out.size)
      have hys9 := hY9.size
      have hyz9 := HZ.out
      go_wp2_with ((with_reducible refine storeV rfl (.tmp 2) (.tmp 41) rfl _ o8 r rfl rfl hr9 _ _ h4b rfl ?_))
      try simp only [Act.put]
      rw [HREQ.out]
      exact retV (w0 := w) (S := S) rfl rfl h4b hr9 (fun h => by
       rcases h with (h | h) | h
       · have := HS.out _ h; omega
       · omega
       · omega) (fun b hb0 => by
       rcases hb0 with (h | h) | h
       · exact .inl h
       · exact .inr ⟨by omega, by omega⟩
       · exact .inr ⟨by omega, h.2⟩) (by omega) HB9.out
def putP : Tm → List Int → Tm → Tm
 | _, [], n => n
 | t, i :: p, n => .app t.nm (t.args.set i.toNat (putP (t.args.getD i.toNat t) p n))

theorem put_comm (a : Act) {s t : Nat} (x y : Value) (h : s ≠ t) : (a.put (some s) x).put (some t) y = (a.put (some t) y).put (some s) x := by
 unfold Act.put
 simp only
 rw [Array.setIfInBounds_comm _ _ h]
theorem put_get_ne (a : Act) {s t : Nat} (x : Value) (h : s ≠ t) : (a.put (some s) x).tmps[t]? = a.tmps[t]? := by
 rw [(put_tmps a s x).1, Array.getElem?_setIfInBounds_ne h]
section
variable {Q : Exit → Act → World → Prop}
theorem wp_region_growC {id : Nat} {a0 : Act} {w0 : World} {l : List Oper} (n : Nat) (hm : Tryz.prog.follows .mixedOrders = true) (hB : invB .any l.toArray (n + 1) = true)
 (d : Nat → Nat) (R : Nat → Value → Nat → Nat → World → Prop) (hR : ∀ i x l m w w', R i x l m w → m ≤ w.heap.size → Below w.heap.size w w' → R i x l m w')
 (hd : ∀ i j, i < n → j < n → d i = d j → i = j) (hds : ∀ i, i < n → d i < a0.tmps.size)
 (late : List Nat) (hlate : ((List.range n).all fun i => late.contains i || Region.waitsFor .any l.toArray n i) = true)
 (dn : Nat) (hdn : ∀ i, i < n → dn ≠ d i) (M : World → World → Value → Prop)
 (step : ∀ i, i < n → ∀ (a : Act) (w : World) (v : Nat → Value) (lo hi : Nat → Nat), (∀ s, (∀ j, j < n → d j ≠ s) → a.tmps[s]? = a0.tmps[s]?) → Below w0.heap.size w0 w →
   (∀ j, j < n → Region.waitsFor .any l.toArray i j = true → a.tmps[d j]? = some (v j) ∧ R j (v j) (lo j) (hi j) w ∧ w0.heap.size ≤ lo j ∧ hi j ≤ w.heap.size) →
   wpOp Tryz.prog l.toArray Q i (fun a' w' => ∃ x, a' = a.put (some (d i)) x ∧ Below w.heap.size w w' ∧ R i x w.heap.size w'.heap.size w') a w)
 (mid : ∀ (a : Act) (w : World) (v : Nat → Value) (lo hi : Nat → Nat), (∀ s, (∀ j, j < n → d j ≠ s) → a.tmps[s]? = a0.tmps[s]?) → Below w0.heap.size w0 w →
   (∀ j, j < n → Region.waitsFor .any l.toArray n j = true → a.tmps[d j]? = some (v j) ∧ R j (v j) (lo j) (hi j) w ∧ w0.heap.size ≤ lo j ∧ hi j ≤ w.heap.size) →
   wpOp Tryz.prog l.toArray Q n (fun a' w' => ∃ x, a' = a.put (some dn) x ∧ M w w' x) a w)
 (stepL : ∀ i, i < n → late.contains i = true → ∀ (a : Act) (w1 w : World) (v : Nat → Value) (lo hi : Nat → Nat), (∀ s, (∀ j, j < n → d j ≠ s) → dn ≠ s → a.tmps[s]? = a0.tmps[s]?) →
   (∀ j, j < n → Region.waitsFor .any l.toArray i j = true → a.tmps[d j]? = some (v j) ∧ R j (v j) (lo j) (hi j) w1) →
   wpOp Tryz.prog l.toArray Q i (fun a' w' => ∃ x, a' = a.put (some (d i)) x ∧ w' = w ∧ R i x w1.heap.size w1.heap.size w1) a w)
 (done : ∀ (b : Act) (w1 w : World) (x : Value) (v : Nat → Value) (lo hi : Nat → Nat), b.defers = a0.defers → b.tmps.size = a0.tmps.size → (∀ s, (∀ j, j < n → d j ≠ s) → b.tmps[s]? = a0.tmps[s]?) → Below w0.heap.size w0 w1 →
   (∀ j, j < n → b.tmps[d j]? = some (v j) ∧ R j (v j) (lo j) (hi j) w1 ∧ w0.heap.size ≤ lo j ∧ hi j ≤ w1.heap.size) → M w1 w x →
   wpList Tryz.prog l.toArray Q (l.drop (n + 1)) (b.put (some dn) x) w) :
 (Code.region id l.toArray true).wp Tryz.prog Q a0 w0 := by
 have hn : n + 1 < l.length := by
  simp only [invB, Bool.and_eq_true, decide_eq_true_eq] at hB
  simpa using hB.1.1.1.1
 have hwait : ∀ i, i < n → late.contains i = false → Region.waitsFor .any l.toArray n i = true := fun i hi hl => by
  have h1 := List.all_eq_true.1 hlate i (List.mem_range.2 hi)
  rw [hl] at h1
  simpa using h1
 refine wp_region_inv (n + 1) hm hB (fun listed a w => listed.size = l.length ∧
  ((listed.getD n true = false ∧ ∃ v lo hi, Grow n d R a0 w0 listed a w v lo hi) ∨
    (listed.getD n true = true ∧ (∀ i, i < n → Region.waitsFor .any l.toArray n i = true → listed.getD i true = true) ∧
      ∃ b x v lo hi w1, a = b.put (some dn) x ∧ Grow n d R a0 w0 listed b w1 v lo hi ∧ M w1 w x))) ?_ ?_ ?_
 · refine ⟨by simp, .inl ⟨?_, fun _ => undef, fun _ => 0, fun _ => 0, rfl, rfl, fun _ _ => rfl, ⟨rfl, rfl, rfl, Nat.le_refl _, fun _ _ => rfl⟩, fun i hi hl => ?_, fun i j hi hj _ hl => ?_⟩⟩
   · have hlt : n < l.length := by omega
     simp [hlt]
   · have : (Array.replicate l.length false).getD i true = false := by
      have hlt : i < l.length := by omega
      simp [hlt]
     rw [this] at hl; cases hl
   · have : (Array.replicate l.length false).getD i true = false := by
      have hlt : i < l.length := by omega
      simp [hlt]
     rw [this] at hl; cases hl
 · rintro listed a w i hi hr ⟨hsz, hph⟩
   obtain ⟨hun, oi, hoi, hall⟩ := mem_ready.1 hr
   have hwl : ∀ j, j < l.length → Region.waitsFor .any l.toArray i j = true → listed.getD j true = true := fun j hj hw => by
    obtain ⟨oj, hoj, e, he, hbn, hon⟩ := Region.waitsFor_spec hw
    have : oj = oi := Option.some.inj (hoj.symm.trans hoi)
    subst this
    have hlj := hall e he hbn
    rw [hon] at hlj
    have hjl : j < listed.size := by omega
    simp [hjl] at hlj ⊢
    exact hlj
   have hgrow : ∀ k, listed.getD k true = true → (listed.setIfInBounds i true).getD k true = true := fun k hk => by
    by_cases e : i = k
    · subst e; exact set_getD
    · rw [Go.getD_set_ne true e]; exact hk
   rcases hph with ⟨hnl, v, lo, hi', hG⟩ | ⟨hnl, hwt, b, x, v, lo, hi', w1, rfl, hG, hM⟩
   · by_cases hin : i = n
     · subst hin
       refine wpOp_mono ?_ (mid a w v lo hi' hG.other hG.below (fun j hj hw => ?_))
       · rintro a' w' ⟨x, rfl, hM⟩
         have hset : ∀ j, j < i → (listed.setIfInBounds i true).getD j true = listed.getD j true := fun j hj => Go.getD_set_ne true (by omega)
         exact ⟨by simpa using hsz, .inr ⟨set_getD, fun j hj hw => hgrow j (hwl j (by omega) hw), a, x, v, lo, hi', w, rfl, ⟨hG.defers, hG.size, hG.other, hG.below, fun j hj hl => hG.slot j hj (by rw [← hset j hj]; exact hl), fun j k hj hk hne hl hl2 => hG.apart j k hj hk hne (by rw [← hset j hj]; exact hl) (by rw [← hset k hk]; exact hl2)⟩, hM⟩⟩
       · obtain ⟨h1, h2, h3, h4, h5⟩ := hG.slot j hj (hwl j (by omega) hw)
         exact ⟨h1, h2, h3, h5⟩
     · have hi2 : i < n := by omega
       refine wpOp_mono ?_ (step i hi2 a w v lo hi' hG.other hG.below (fun j hj hw => ?_))
       · rintro a' w' ⟨x, rfl, hb, hx⟩
         refine ⟨by simpa using hsz, .inl ⟨?_, _, _, _, hG.step hR hd hds hi2 (by omega) hun hb hx⟩⟩
         rw [Go.getD_set_ne true (by omega)]; exact hnl
       · obtain ⟨h1, h2, h3, h4, h5⟩ := hG.slot j hj (hwl j (by omega) hw)
         exact ⟨h1, h2, h3, h5⟩
   · have hin : i ≠ n := fun e => by rw [e, hnl] at hun; cases hun
     have hi2 : i < n := by omega
     have hcl : late.contains i = true := by
      cases hc : late.contains i with
      | true => rfl
      | false => rw [hwt i hi2 (hwait i hi2 hc)] at hun; cases hun
     refine wpOp_mono ?_ (stepL i hi2 hcl (b.put (some dn) x) w1 w v lo hi' (fun s hs hds' => by rw [put_get_ne b x hds']; exact hG.other s hs) (fun j hj hw => ?_))
     · rintro a' w' ⟨y, rfl, rfl, hy⟩
       refine ⟨by simpa using hsz, .inr ⟨hgrow n hnl, fun j hj hw => hgrow j (hwt j hj hw), b.put (some (d i)) y, x, _, _, _, w1, put_comm b x y (hdn i hi2), hG.step hR hd hds hi2 (by omega) hun (Below.refl _ _) hy, hM⟩⟩
     · obtain ⟨h1, h2, _, _, _⟩ := hG.slot j hj (hwl j (by omega) hw)
       exact ⟨by rw [put_get_ne b x (hdn j hj)]; exact h1, h2⟩
 · rintro a w ⟨hsz, hph⟩
   have hfull : ∀ i, i < n + 1 → (fullHead (n + 1) (l.length - (n + 1))).getD i true = true := fun i hi => by
    have hlt : i < (fullHead (n + 1) (l.length - (n + 1))).size := by simp [fullHead]; omega
    simp [fullHead, hi, List.getElem?_append]
   rcases hph with ⟨hnl, _⟩ | ⟨hnl, hwt, b, x, v, lo, hi', w1, rfl, hG, hM⟩
   · rw [hfull n (by omega)] at hnl; cases hnl
   · exact done b w1 w x v lo hi' hG.defers hG.size hG.other hG.below (fun j hj => by
      obtain ⟨h1, h2, h3, h4, h5⟩ := hG.slot j hj (hfull j (by omega))
      exact ⟨h1, h2, h3, h5⟩) hM
end
structure KpU (gu : Nat) (w w' : World) : Prop where
 os : w'.os = w.os
 tape : w'.tape = w.tape
 output : w'.output = w.output
 size : w.heap.size ≤ w'.heap.size
 block : ∀ b, b < w.heap.size → b ≠ gu → w'.heap[b]? = w.heap[b]?
theorem below_kpU {w w' : World} (gu : Nat) (h : Below w.heap.size w w') : KpU gu w w' := ⟨h.os, h.tape, h.output, h.size, fun b hb _ => h.block b hb⟩
theorem KpU.trans {gu : Nat} {w w1 w2 : World} (h : KpU gu w w1) (h' : KpU gu w1 w2) : KpU gu w w2 := ⟨h'.os.trans h.os, h'.tape.trans h.tape, h'.output.trans h.output, Nat.le_trans h.size h'.size, fun b hb hne => (h'.block b (Nat.lt_of_lt_of_le hb h.size) hne).trans (h.block b hb hne)⟩
theorem KpU.below {gu : Nat} {w0 w w' : World} (h : KpU gu w w') (hb : Below w0.heap.size w0 w) (hg : w0.heap.size ≤ gu) : Below w0.heap.size w0 w' :=
 ⟨h.os.trans hb.os, h.tape.trans hb.tape, h.output.trans hb.output, Nat.le_trans hb.size h.size, fun b hlt => (h.block b (Nat.lt_of_lt_of_le hlt hb.size) (by omega)).trans (hb.block b hlt)⟩
def UB (w : World) (gu : Nat) (L : Int) : Prop := w.heap[gu]? = some (.cells #[.int .i64 L] 114 (0, 0))
theorem UB.keep {w w' : World} {gu : Nat} {L : Int} (h : UB w gu L) (hb : Below w.heap.size w w') : UB w' gu L := (hb.block gu (lt_of_heap h)).trans h
theorem UB.cell {w : World} {gu : Nat} {L : Int} (h : UB w gu L) : w.cell? ⟨gu, 0, none⟩ = some (.int .i64 L) := by rw [cell_of_row _ _ _ _ _ _ h]; rfl
theorem UB.free {w : World} {gu : Nat} {L : Int} (h : UB w gu L) : w.frozen? ⟨gu, 0, none⟩ = false := by
 have h' : w.heap[gu]? = _ := h
 simp [World.frozen?, h']
theorem UB.set {w : World} {gu : Nat} {L M : Int} (h : UB w gu L) : UB (w.setCell ⟨gu, 0, none⟩ (.int .i64 M)) gu M := by
 unfold UB
 rw [setCell_eq_setRow w gu 0 _ _ _ _ h, setRow_heap w gu _ _ _ _ h]
 rfl
theorem KpU.set (gu : Nat) (w : World) (v : Value) : KpU gu w (w.setCell ⟨gu, 0, none⟩ v) := ⟨rfl, rfl, rfl, by simp [World.setCell], fun b hb hne => Below.heap_setCell w ⟨gu, 0, none⟩ v b hne⟩
mutual
def Tm.qn : Tm → Nat
 | .var _ => 1
 | .con _ => 1
 | .app _ l => 1 + Tm.qns l
def Tm.qns : List Tm → Nat
 | [] => 0
 | t :: l => t.qn + Tm.qns l
end
mutual
theorem Tm.qn_nodes : ∀ t : Tm, t.qn ≤ t.nodes
 | .var _ => by simp [Tm.qn, Tm.nodes]
 | .con o => by have := Tm.nodes_pos (.con o); simp only [Tm.qn]; omega
 | .app _ l => by have := Tm.qns_nodes l; simp only [Tm.qn, Tm.nodes]; omega
theorem Tm.qns_nodes : ∀ l : List Tm, Tm.qns l ≤ Tm.nodesL l
 | [] => by simp [Tm.qns]
 | t :: l => by have := Tm.qn_nodes t; have := Tm.qns_nodes l; simp only [Tm.qns, Tm.nodesL]; omega
end
theorem Tm.qns_drop {l : List Tm} {i : Nat} (hi : i < l.length) : Tm.qns (l.drop i) = l[i].qn + Tm.qns (l.drop (i + 1)) := by rw [List.drop_eq_getElem_cons hi]; rfl
mutual
def Tm.qok : Tm → Prop
 | .var _ => True
 | .con _ => True
 | .app s l => ¬ (s.1.toList = [108, 105, 115, 112] ∧ s.2.toList = [113, 117, 111, 116, 101]) ∧ l.length ≤ 8 ∧ Tm.qoks l
def Tm.qoks : List Tm → Prop
 | [] => True
 | t :: l => t.qok ∧ Tm.qoks l
end
theorem Tm.qoks_mem : ∀ {l : List Tm}, Tm.qoks l → ∀ t ∈ l, t.qok
 | x :: l, h, t, ht => by
  unfold Tm.qoks at h
  rcases List.mem_cons.1 ht with rfl | ht
  · exact h.1
  · exact Tm.qoks_mem h.2 t ht
end Go.Proofs.YtinjhnnpbejccaaGreatDoor
