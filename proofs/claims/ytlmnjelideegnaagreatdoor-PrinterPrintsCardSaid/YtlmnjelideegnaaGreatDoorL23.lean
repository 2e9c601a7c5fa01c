/- The maker of objects: a cons of two parts. -/
import Derived.Test.YtlmnjelideegnaaGreatDoorL19
import Derived.Test.YtlmnjelideegnaaGreatDoorL22
import Derived.Maps.AppendAt
namespace Go.Proofs.YtlmnjelideegnaaGreatDoor
open Go Go.RowKit
set_option linter.unusedVariables false
set_option maxHeartbeats 32000000
set_option maxRecDepth 100000
def consR (S : Nat → Prop) (r : Rw) (B m0 m1 : Nat) (raw : Value) (i : Nat) (v : Value) (lo hi : Nat) (w : World) : Prop :=
 match i with
 | 0 => v = raw
 | 1 => ∃ cs, v = .agg cs.toArray ∧ RawAt w S (partV r 0) cs ∧ In S w
 | 2 => ∃ o p, v = vO o p ∧ Pair w (fun b => lo ≤ b ∧ b < hi) o p ∧ OkO m0 o
 | 3 => v = raw
 | 4 => ∃ cs, v = .agg cs.toArray ∧ RawAt w S (partV r 1) cs ∧ In S w
 | 5 => ∃ o p, v = vO o p ∧ Pair w (fun b => lo ≤ b ∧ b < hi) o p ∧ OkO m1 o
 | _ => ∃ o p, v = vO o p ∧ Pair w (fun b => B ≤ b ∧ b < hi) o p ∧ OkO (1 + m0 + m1) o
theorem consR_mono {S : Nat → Prop} {r : Rw} {B m0 m1 : Nat} {raw : Value} : ∀ i x l m w w', consR S r B m0 m1 raw i x l m w → m ≤ w.heap.size → Below w.heap.size w w' → consR S r B m0 m1 raw i x l m w' := by
 intro i x l m w w' h hm hb
 match i, h with
 | 0, h => exact h
 | 3, h => exact h
 | 1, ⟨cs, h1, h2, h3⟩ => exact ⟨cs, h1, h2.below h3 hb, h3.later hb.size⟩
 | 4, ⟨cs, h1, h2, h3⟩ => exact ⟨cs, h1, h2.below h3 hb, h3.later hb.size⟩
 | 2, ⟨o, p, h1, h2, h3⟩ => exact ⟨o, p, h1, h2.below (fun b hb => by omega) hb, h3⟩
 | 5, ⟨o, p, h1, h2, h3⟩ => exact ⟨o, p, h1, h2.below (fun b hb => by omega) hb, h3⟩
 | i + 6, ⟨o, p, h1, h2, h3⟩ => exact ⟨o, p, h1, h2.below (fun b hb => by omega) hb, h3⟩

theorem objCons (k n : Int) (s : ByteArray) (A : Option Addr) (L c : Nat) (w : World) (S : Nat → Prop) (hS : In S w) (r : Rw) (m0 m1 : Nat) (hq : k % 8 = 5) (hk : I64 k) (ht : Tab w)
 (hr : RawAt w S r [.int .i64 k, .int .i64 n, .string s, .slice A L c])
 (K0 : ∀ w cs, In S w → RawAt w S (partV r 0) cs → Tab w → Calls Tryz.prog 17 #[.agg cs.toArray] w (RetX w m0))
 (K1 : ∀ w cs, In S w → RawAt w S (partV r 1) cs → Tab w → Calls Tryz.prog 17 #[.agg cs.toArray] w (RetX w m1)) :
 Calls Tryz.prog 17 #[.agg #[.int .i64 k, .int .i64 n, .string s, .slice A L c]] w (RetX w (1 + m0 + m1)) := by
 have HT := Lib.hid ht
 have HK := Lib.hid hk
 have HQ := Lib.hid hq
 have HS := Lib.hid hS
 have HR := Lib.hid hr
 have H0 := Lib.hid K0
 have H1 := Lib.hid K1
 clear hk hq ht hS hr K0 K1
 go_enter Tryz.func17, Tryz.ntmps17
 go_wp2_with fail
 have M := MkW.new w #[.int .i64 k, .int .i64 n, .string s, .slice A L c]
 refine (modO k 8 _ HK.out.1 HK.out.2 (by decide) (by decide)).mono ?_
 rintro e w1 ⟨rfl, rfl⟩
 generalize (w.alloc (.cells #[.int .i64 k, .int .i64 n, .string s, .slice A L c] 35)).alloc (.cells #[.int .i64 0, .string ⟨#[]⟩, .string ⟨#[]⟩, .string ⟨#[]⟩, .string ⟨#[]⟩, .string ⟨#[]⟩, .slice none 0 0] 39) = W at M ⊢
 have HM := Lib.hid M
 clear M
 have hq := HQ.out
 clear HQ
 generalize k % 8 = q at hq ⊢
 subst hq
 go_wp2_with fail
 have HSW := HS.out.later HM.out.bel.size
 refine wp_region_grow (l := _) 7 (by kernel_rfl) (by kernel_rfl) (fun i => 42 + i) (consR S r W.heap.size m0 m1 (.agg #[.int .i64 k, .int .i64 n, .string s, .slice A L c])) consR_mono (fun i j _ _ h => by omega) (fun i hi => by show 42 + i < 67; omega) ?step ?done
 case step =>
  intro i hi a w2 v lo hi' hoth hb hw
  have hB := HM.out.below hb
  have h1 : a.tmps[1]? = some (.pointer (some ⟨w.heap.size, 0, none⟩)) := (hoth 1 (fun j hj => by omega)).trans rfl
  have hT : Tab w2 := HT.out.below hB.1
  have hIn : In S w2 := HS.out.later hB.1.size
  have hraw : RawAt w2 S r [.int .i64 k, .int .i64 n, .string s, .slice A L c] := HR.out.below HS.out hB.1
  match i, hi with
  | 0, _ =>
   refine grow_load rfl rfl 35 (.tmp 1) rfl w.heap.size 0 (eval_of h1) [.int .i64 k, .int .i64 n, .string s, .slice A L c] _ (World.rangeAt_of_block hB.2.1 0 4) Tryz.underlying35 rfl (by kernel_rfl) ⟨_, rfl, Below.refl _ _, rfl⟩
  | 1, _ =>
   obtain ⟨s42, e42, _⟩ := hw 0 (by omega) (by kernel_rfl)
   have e : v 0 = .agg #[.int .i64 k, .int .i64 n, .string s, .slice A L c] := e42
   rw [e] at s42
   refine grow_callc rfl rfl 48 42 (.int .i64 0) _ rfl _ (fun v u w => by go_simp) s42 ?_
   refine (partO r _ 0 w2 S hIn hraw (by decide)).mono ?_
   rintro e w3 ⟨cs, rfl, hcs, hb3⟩
   exact ⟨_, rfl, _, rfl, hb3, cs, rfl, hcs, hIn.later hb3.size⟩
  | 2, _ =>
   obtain ⟨s43, ⟨cs, e43, hcs, hin⟩, _⟩ := hw 1 (by omega) (by kernel_rfl)
   rw [e43] at s43
   refine grow_call1 rfl rfl 17 43 _ rfl _ (fun v w => by go_simp) s43 ?_
   refine (H0.out w2 cs hin hcs hT).mono ?_
   rintro e w3 ⟨o, p, rfl, hp, hb3, ok⟩
   exact ⟨_, rfl, _, rfl, hb3, o, p, rfl, hp.more (fun b h => by rcases h with h | h; exact h.elim; exact h), ok⟩
  | 3, _ =>
   refine grow_load rfl rfl 35 (.tmp 1) rfl w.heap.size 0 (eval_of h1) [.int .i64 k, .int .i64 n, .string s, .slice A L c] _ (World.rangeAt_of_block hB.2.1 0 4) Tryz.underlying35 rfl (by kernel_rfl) ⟨_, rfl, Below.refl _ _, rfl⟩
  | 4, _ =>
   obtain ⟨s42, e42, _⟩ := hw 3 (by omega) (by kernel_rfl)
   have e : v 3 = .agg #[.int .i64 k, .int .i64 n, .string s, .slice A L c] := e42
   rw [e] at s42
   refine grow_callc rfl rfl 48 45 (.int .i64 1) _ rfl _ (fun v u w => by go_simp) s42 ?_
   refine (partO r _ 1 w2 S hIn hraw (by decide)).mono ?_
   rintro e w3 ⟨cs, rfl, hcs, hb3⟩
   exact ⟨_, rfl, _, rfl, hb3, cs, rfl, hcs, hIn.later hb3.size⟩
  | 5, _ =>
   obtain ⟨s43, ⟨cs, e43, hcs, hin⟩, _⟩ := hw 4 (by omega) (by kernel_rfl)
   rw [e43] at s43
   refine grow_call1 rfl rfl 17 46 _ rfl _ (fun v w => by go_simp) s43 ?_
   refine (H1.out w2 cs hin hcs hT).mono ?_
   rintro e w3 ⟨o, p, rfl, hp, hb3, ok⟩
   exact ⟨_, rfl, _, rfl, hb3, o, p, rfl, hp.more (fun b h => by rcases h with h | h; exact h.elim; exact h), ok⟩
  | 6, _ =>
   obtain ⟨s44, ⟨o1, p1, e44, hp1, ok1⟩, l1, h44⟩ := hw 2 (by omega) (by kernel_rfl)
   obtain ⟨s47, ⟨o2, p2, e47, hp2, ok2⟩, l2, h47⟩ := hw 5 (by omega) (by kernel_rfl)
   rw [e44] at s44
   rw [e47] at s47
   refine grow_call2 rfl rfl 47 44 47 _ rfl _ _ (fun v u w => by go_simp) s44 s47 ?_
   refine (consO o1 o2 p1 p2 w2 (fun b => W.heap.size ≤ b ∧ b < w2.heap.size) (fun b h => h.2) (hp1.more fun b h => by omega) (hp2.more fun b h => by omega)).mono ?_
   rintro e w3 ⟨p, rfl, hp, hb3⟩
   have h23 := hb3.size
   have h02 := hb.size
   exact ⟨_, rfl, _, rfl, hb3, .cons o1 o2, p, rfl, hp.more (fun b h => by rcases h with h | h <;> omega), ⟨ok1.1, ok2.1⟩, by have := ok1.2; have := ok2.2; show 1 + o1.nodes + o2.nodes ≤ _; omega, ⟨ok1.3, ok2.3⟩⟩
 case done =>
  intro a w2 v lo hi hdef hsz hoth hb hj hap
  obtain ⟨h6, ⟨o, p, hv, hp, ok⟩, _, hhi⟩ := hj 6 (by omega)
  have ha := eq_puts hdef hsz hoth (fun i hi => (hj i hi).1)
  have hB := HM.out.below hb
  have hsz0 := HM.out.sz
  have hsb := hb.size
  have hg2 := Lib.hid hB.2.2
  have hbw := Lib.hid hB.1
  have HO := Lib.hid ok
  subst ha
  clear hj hap hoth hdef hsz ok hB hb h6
  simp only [puts, Nat.reduceAdd, hv]
  generalize v 0 = v0
  generalize v 1 = v1
  generalize v 2 = v2
  generalize v 3 = v3
  generalize v 4 = v4
  generalize v 5 = v5
  clear hv
  show wpList _ _ _ [_] _ _
  simp only [Act.put, List.setIfInBounds_toArray, List.set_cons_zero, List.set_cons_succ]
  go_wp2_with (refine storeV (w1 := w2) rfl (.tmp 2) (.tmp 48) rfl (w.heap.size + 1) _ _ rfl rfl hp _ _ hg2.out rfl ?_)
  exact retX (q := 2) rfl rfl hg2.out hp (fun h => by omega) (fun b hb => .inr ⟨by omega, by omega⟩) (by omega) hbw.out HO.out
def flatC (xs : List (Ob × Value)) : List Value := xs.flatMap fun x => cellsO x.1 x.2
theorem flatC_snoc (xs : List (Ob × Value)) (o : Ob) (p : Value) : flatC (xs ++ [(o, p)]) = flatC xs ++ cellsO o p := by simp [flatC]
def fsts (xs : List (Ob × Value)) : List Ob := xs.map (·.1)
theorem list_snoc_nodes : ∀ (l : List Ob) (o : Ob), (Ob.list (l ++ [o])).nodes = (Ob.list l).nodes + 1 + o.nodes
 | [], o => by show 1 + o.nodes + (Ob.list []).nodes = _; show 1 + o.nodes + 1 = 1 + 1 + o.nodes; omega
 | a :: l, o => by
  have := list_snoc_nodes l o
  show 1 + a.nodes + (Ob.list (l ++ [o])).nodes = 1 + a.nodes + (Ob.list l).nodes + 1 + o.nodes
  omega
theorem list_snoc_bd {k : Nat} : ∀ (l : List Ob) (o : Ob), (Ob.list l).bd k → o.bd k → (Ob.list (l ++ [o])).bd k
 | [], o, _, h => ⟨h, nil_ok⟩
 | a :: l, o, h, ho => ⟨h.1, list_snoc_bd l o h.2 ho⟩
theorem list_snoc_tx : ∀ (l : List Ob) (o : Ob), (Ob.list l).tx → o.tx → (Ob.list (l ++ [o])).tx
 | [], o, _, h => ⟨h, (show [110, 105, 108].length ≤ 8 by decide)⟩
 | a :: l, o, h, ho => ⟨h.1, list_snoc_tx l o h.2 ho⟩
theorem cnts_snoc : ∀ {l : List Rw} {i : Nat} (hi : i < l.length), Rw.cnts (l.take (i + 1)) = Rw.cnts (l.take i) + l[i].cnt
 | r :: rs, 0, _ => by simp [Rw.cnts]
 | r :: rs, i + 1, hi => by
  have := cnts_snoc (l := rs) (i := i) (by simpa using hi)
  simp only [List.take_succ_cons, Rw.cnts, List.getElem_cons_succ]
  omega

theorem own_lt {w : World} {base : Nat} {e : TypeId} {size n : Nat} {v : Value} {xs : List Value} (h : w.ownsRow base e size v n xs) : ∀ g, v.ownBlock = some g → base ≤ g ∧ g < w.heap.size := by
 intro g hg
 rcases h.2 with ⟨rfl, _⟩ | ⟨g', cap, cur, rfl, hb, hh, _⟩
 · simp [Value.ownBlock] at hg
 · have e : g' = g := by simpa [Value.ownBlock] using hg
   subst e
   exact ⟨hb, by
    rcases Nat.lt_or_ge g' w.heap.size with h | h
    · exact h
    · rw [Array.getElem?_eq_none h] at hh; cases hh⟩
theorem own_keep {w w' : World} {base : Nat} {e : TypeId} {size n : Nat} {v : Value} {xs : List Value} (h : w.ownsRow base e size v n xs) (hk : ∀ g, v.ownBlock = some g → w'.heap[g]? = w.heap[g]?) : w'.ownsRow base e size v n xs := by
 refine ⟨h.1, ?_⟩
 rcases h.2 with h0 | ⟨g', cap, cur, rfl, hb, hh, h1⟩
 · exact .inl h0
 · exact .inr ⟨g', cap, cur, rfl, hb, (hk g' rfl).trans hh, h1⟩
structure MkL (B : Nat) (W wr : World) (l : List Rw) (i : Nat) (v : Value) (xs : List (Ob × Value)) : Prop where
 len : xs.length = i
 own : wr.ownsRow B 39 7 v i (flatC xs)
 pairs : ∀ x ∈ xs, Pair wr (fun b => B ≤ b ∧ b < wr.heap.size ∧ v.ownBlock ≠ some b) x.1 x.2
 bd : (Ob.list (fsts xs)).bd 10
 nodes : (Ob.list (fsts xs)).nodes ≤ 1 + 4 * Rw.cnts (l.take i)
 bel : Below W.heap.size W wr
 tx : (Ob.list (fsts xs)).tx
theorem MkL.start (W : World) (l : List Rw) : MkL W.heap.size W W l 0 (.slice none 0 0) [] :=
 ⟨rfl, ⟨rfl, .inl ⟨rfl, rfl⟩⟩, fun x hx => by simp at hx, nil_ok, by simp [fsts, Ob.list, Ob.nodes, Ob.nil, Rw.cnts], Below.refl _ _, (show [110, 105, 108].length ≤ 8 by decide)⟩
theorem MkL.own3 {B : Nat} {W wo w3 : World} {l : List Rw} {i : Nat} {v : Value} {xs : List (Ob × Value)} (h : MkL B W wo l i v xs) (hb : Below wo.heap.size wo w3) (x : Obj) : (w3.alloc x).ownsRow B 39 7 v i (flatC xs) :=
 own_keep h.own fun g hg => by
  have := (own_lt h.own g hg).2
  rw [Below.heap_alloc _ _ _ (by have := hb.size; omega)]
  exact hb.block g this
theorem MkL.step {B : Nat} {W wo w3 w4 : World} {l : List Rw} {i : Nat} {v v' : Value} {xs : List (Ob × Value)} (h : MkL B W wo l i v xs) (hBW : B = W.heap.size) (hb : Below wo.heap.size wo w3) (x : Obj) (hi : i < l.length) {o : Ob} {p : Value}
 (hp : Pair w3 (Upto wo w3 NoB) o p) (ok : OkO (4 * l[i].cnt - 1) o) (h4 : w4.ownsRow B 39 7 v' (i + 1) (flatC xs ++ cellsO o p)) (hg : (w3.alloc x).grownBy w4 v.ownBlock) (hat : v'.ownBlock = v.ownBlock ∨ v'.ownBlock = some (w3.alloc x).heap.size) :
 MkL B W w4 l (i + 1) v' (xs ++ [(o, p)]) := by
 have hown := own_lt h.own
 have h34 := hg.size
 have hs3 := hb.size
 have hsW := h.bel.size
 simp only [World.size_alloc] at h34 hat
 have blk : ∀ b, b < w3.heap.size → v.ownBlock ≠ some b → w4.heap[b]? = w3.heap[b]? := fun b hb' hne =>
  (hg.block b (by simp; omega) (fun e => hne e.symm)).trans (Below.heap_alloc _ _ _ hb')
 have hne' : ∀ b, b < w3.heap.size → v.ownBlock ≠ some b → v'.ownBlock ≠ some b := fun b hb' hne e => by
  rcases hat with h0 | h0
  · exact hne (h0.symm.trans e)
  · rw [h0] at e
    have : w3.heap.size + 1 = b := by injection e
    omega
 refine ⟨by simp [h.len], by rw [flatC_snoc]; exact h4, fun y hy => ?_, ?_, ?_, ?_, by rw [fsts, List.map_append]; exact list_snoc_tx _ _ h.tx ok.3⟩
 · rcases List.mem_append.1 hy with hy | hy
   · refine (h.pairs y hy).keep (fun b hb' => ⟨hb'.1, by omega, hne' b (by omega) hb'.2.2⟩) (fun b hb' => ?_)
     rw [blk b (by omega) hb'.2.2, hb.block b hb'.2.1]
   · obtain rfl : y = (o, p) := by simpa using hy
     have hn : ∀ b, Upto wo w3 NoB b → wo.heap.size ≤ b ∧ b < w3.heap.size ∧ v.ownBlock ≠ some b := fun b hb' => by
      rcases hb' with h0 | h0
      · exact h0.elim
      · exact ⟨h0.1, h0.2, fun e => by have := (hown b e).2; omega⟩
     refine hp.keep (fun b hb' => ?_) (fun b hb' => ?_)
     · obtain ⟨h0, h1, h2⟩ := hn b hb'
       exact ⟨by omega, by omega, hne' b h1 h2⟩
     · obtain ⟨h0, h1, h2⟩ := hn b hb'
       exact blk b h1 h2
 · rw [fsts, List.map_append]
   exact list_snoc_bd _ _ h.bd ok.1
 · have h1 := h.nodes
   have h2 := ok.2
   have h3 := Rw.cnt_pos l[i]
   rw [fsts, List.map_append, cnts_snoc hi]
   show (Ob.list (fsts xs ++ [o])).nodes ≤ _
   rw [list_snoc_nodes]
   omega
 · have hb3 := h.bel.trans (hb.mono hsW)
   have hba := Below.alloc hb3 (by omega) x
   exact hba.grown hg hba.size (fun k hk => by have := (hown k hk).1; omega)

theorem obsAt_row {w : World} {S : Nat → Prop} {g : Nat} : ∀ (xs : List (Ob × Value)) (o : Nat), (∀ x ∈ xs, Pair w S x.1 x.2) → (∀ j u, (flatC xs)[j]? = some u → w.cell? ⟨g, o + j, none⟩ = some u) → ObsAt w S g o (fsts xs)
 | [], o, _, _ => by show ObsAt w S g o []; unfold ObsAt; trivial
 | (a, p) :: xs, o, hp, hc => by
  show ObsAt w S g o (a :: fsts xs)
  unfold ObsAt
  refine ⟨⟨p, hp (a, p) (by simp), fun j u hj => hc j u ?_⟩, obsAt_row xs (o + 7) (fun x hx => hp x (by simp [hx])) (fun j u hj => ?_)⟩
  · have hlt : j < (cellsO a p).length := by
     rcases Nat.lt_or_ge j (cellsO a p).length with h | h
     · exact h
     · rw [List.getElem?_eq_none h] at hj; cases hj
    show (cellsO a p ++ flatC xs)[j]? = some u
    rw [List.getElem?_append_left hlt]
    exact hj
  · rw [show o + 7 + j = o + (7 + j) from by omega]
    refine hc (7 + j) u ?_
    show (cellsO a p ++ flatC xs)[7 + j]? = some u
    rw [List.getElem?_append_right (by rw [cellsO_length]; omega), cellsO_length, show 7 + j - 7 = j by omega]
    exact hj
theorem MkL.slice {B : Nat} {W wr : World} {l : List Rw} {i : Nat} {v : Value} {xs : List (Ob × Value)} (h : MkL B W wr l i v xs) :
 ∃ A c, v = .slice A (fsts xs).length c ∧ (fsts xs).length ≤ c ∧ (0 < (fsts xs).length → ∃ b o, A = some ⟨b, o, none⟩ ∧ (B ≤ b ∧ b < wr.heap.size) ∧ ObsAt wr (fun b => B ≤ b ∧ b < wr.heap.size) b o (fsts xs)) := by
 have hl : (fsts xs).length = i := by simp [fsts, h.len]
 have ho := own_lt h.own
 rcases h.own.2 with ⟨rfl, rfl⟩ | ⟨g, cap, cur, rfl, hb, hh, hn, _, hcs, hcur⟩
 · exact ⟨none, 0, by rw [hl], by omega, fun h0 => by omega⟩
 · refine ⟨_, cap, by rw [hl], by omega, fun _ => ⟨g, 0, rfl, ho g rfl, obsAt_row xs 0 (fun x hx => (h.pairs x hx).more fun b hb => ⟨hb.1, hb.2.1⟩) fun j u hj => ?_⟩⟩
   rw [Nat.zero_add, cell_of_row _ _ _ _ _ _ hh]
   rw [← hcur] at hj
   rw [List.getElem?_take] at hj
   split at hj
   · simpa using hj
   · cases hj
end Go.Proofs.YtlmnjelideegnaaGreatDoor
