import Derived.Test.YtinjhnnpbejccaaGreatDoorAl
import Derived.Test.YtinjhnnpbejccaaGreatDoorG13
import Derived.Test.YtinjhnnpbejccaaGreatDoorG16
import Derived.Maps.AppendAt
namespace Go.Proofs.YtinjhnnpbejccaaGreatDoor
open Go Go.RowKit
set_option linter.unusedVariables false
set_option maxHeartbeats 32000000
set_option maxRecDepth 100000
def consR (S : Nat → Prop) (r : Rw) (B m0 m1 : Nat) (raw : Value) (i : Nat) (v : Value) (lo hi : Nat) (w : World) : Prop :=
 match i with
 | 0 => v = raw
 | 1 => ∃ cs, v = .agg cs.toArray ∧ RawAt w S (partV r 0) cs ∧ In S w
 | 2 => ∃ o p, v = vO o p ∧ Pair w (fun b => lo ≤ b ∧ b < hi) o p ∧ OkO m0 o
 | 3 => v = raw
 | 4 => ∃ cs, v = .agg cs.toArray ∧ RawAt w S (partV r 1) cs ∧ In S w
 | 5 => ∃ o p, v = vO o p ∧ Pair w (fun b => lo ≤ b ∧ b < hi) o p ∧ OkO m1 o
 | _ => ∃ o p, v = vO o p ∧ Pair w (fun b => B ≤ b ∧ b < hi) o p ∧ OkO (1 + m0 + m1) o
theorem consR_mono {S : Nat → Prop} {r : Rw} {B m0 m1 : Nat} {raw : Value} : ∀ i x l m w w', consR S r B m0 m1 raw i x l m w → m ≤ w.heap.size → Below w.heap.size w w' → consR S r B m0 m1 raw i x l m w' := by
 intro i x l m w w' h hm hb
 match i, h with
 | 0, h => exact h
 | 3, h => exact h
 | 1, ⟨cs, h1, h2, h3⟩ => exact ⟨cs, h1, h2.below h3 hb, h3.later hb.size⟩
 | 4, ⟨cs, h1, h2, h3⟩ => exact ⟨cs, h1, h2.below h3 hb, h3.later hb.size⟩
 | 2, ⟨o, p, h1, h2, h3⟩ => exact ⟨o, p, h1, h2.below (fun b hb => by omega) hb, h3⟩
 | 5, ⟨o, p, h1, h2, h3⟩ => exact ⟨o, p, h1, h2.below (fun b hb => by omega) hb, h3⟩
 | i + 6, ⟨o, p, h1, h2, h3⟩ => exact ⟨o, p, h1, h2.below (fun b hb => by omega) hb, h3⟩

theorem objCons (k n : Int) (s : ByteArray) (A : Option Addr) (L c : Nat) (w : World) (S : Nat → Prop) (hS : In S w) (r : Rw) (m0 m1 : Nat) (hq : k % 8 = 5) (hk : I64 k) (ht : Tab w)
 (hr : RawAt w S r [.int .i64 k, .int .i64 n, .string s, .slice A L c])
 (K0 : ∀ w cs, In S w → RawAt w S (partV r 0) cs → Tab w → Calls Tryz.prog 16 #[.agg cs.toArray] w (RetX w m0))
 (K1 : ∀ w cs, In S w → RawAt w S (partV r 1) cs → Tab w → Calls Tryz.prog 16 #[.agg cs.toArray] w (RetX w m1)) :
 Calls Tryz.prog 16 #[.agg #[.int .i64 k, .int .i64 n, .string s, .slice A L c]] w (RetX w (1 + m0 + m1)) := by
 have HT := qh9 ht
 have HK := qh9 hk
 have HQ := qh9 hq
 have HS := qh9 hS
 have HR := qh9 hr
 have H0 := qh9 K0
 have H1 := qh9 K1
 clear hk hq ht hS hr K0 K1
 go_enter Tryz.func16, Tryz.ntmps16
 go_wp2_with fail
 have M := MkW.new w #[.int .i64 k, .int .i64 n, .string s, .slice A L c]
 refine (modO k 8 _ HK.out.1 HK.out.2 (by decide) (by decide)).mono ?_
 rintro e w1 ⟨rfl, rfl⟩
 generalize (w.alloc (.cells #[.int .i64 k, .int .i64 n, .string s, .slice A L c] 26)).alloc (.cells #[.int .i64 0, .string ⟨#[]⟩, .string ⟨#[]⟩, .string ⟨#[]⟩, .string ⟨#[]⟩, .string ⟨#[]⟩, .slice none 0 0] 33) = W at M ⊢
 have HM := qh9 M
 clear M
 have hq := HQ.out
 clear HQ
 generalize k % 8 = q at hq ⊢
 subst hq
 go_wp2_with fail
 have HSW := HS.out.later HM.out.bel.size
 refine wp_region_grow (l := _) 7 (by kernel_rfl) (by kernel_rfl) (fun i => 42 + i) (consR S r W.heap.size m0 m1 (.agg #[.int .i64 k, .int .i64 n, .string s, .slice A L c])) consR_mono (fun i j _ _ h => by omega) (fun i hi => by show 42 + i < 67; omega) ?step ?done
 case step =>
  intro i hi a w2 v lo hi' hoth hb hw
  have hB := HM.out.below hb
  have h1 : a.tmps[1]? = some (.pointer (some ⟨w.heap.size, 0, none⟩)) := (hoth 1 (fun j hj => by omega)).trans rfl
  have hT : Tab w2 := HT.out.below hB.1
  have hIn : In S w2 := HS.out.later hB.1.size
  have hraw : RawAt w2 S r [.int .i64 k, .int .i64 n, .string s, .slice A L c] := HR.out.below HS.out hB.1
  match i, hi with
  | 0, _ =>
   refine grow_load rfl rfl 26 (.tmp 1) rfl w.heap.size 0 (eval_of h1) [.int .i64 k, .int .i64 n, .string s, .slice A L c] _ (World.rangeAt_of_block hB.2.1 0 4) Tryz.underlying26 rfl (by kernel_rfl) ⟨_, rfl, Below.refl _ _, rfl⟩
  | 1, _ =>
   obtain ⟨s42, e42, _⟩ := hw 0 (by omega) (by kernel_rfl)
   have e : v 0 = .agg #[.int .i64 k, .int .i64 n, .string s, .slice A L c] := e42
   rw [e] at s42
   refine grow_callc rfl rfl 66 42 (.int .i64 0) _ rfl _ (fun v u w => by go_simp) s42 ?_
   refine (partO r _ 0 w2 S hIn hraw (by decide)).mono ?_
   rintro e w3 ⟨cs, rfl, hcs, hb3⟩
   exact ⟨_, rfl, _, rfl, hb3, cs, rfl, hcs, hIn.later hb3.size⟩
  | 2, _ =>
   obtain ⟨s43, ⟨cs, e43, hcs, hin⟩, _⟩ := hw 1 (by omega) (by kernel_rfl)
   rw [e43] at s43
   refine grow_call1 rfl rfl 16 43 _ rfl _ (fun v w => by go_simp) s43 ?_
   refine (H0.out w2 cs hin hcs hT).mono ?_
   rintro e w3 ⟨o, p, rfl, hp, hb3, ok⟩
   exact ⟨_, rfl, _, rfl, hb3, o, p, rfl, hp.more (fun b h => by rcases h with h | h; exact h.elim; exact h), ok⟩
  | 3, _ =>
   refine grow_load rfl rfl 26 (.tmp 1) rfl w.heap.size 0 (eval_of h1) [.int .i64 k, .int .i64 n, .string s, .slice A L c] _ (World.rangeAt_of_block hB.2.1 0 4) Tryz.underlying26 rfl (by kernel_rfl) ⟨_, rfl, Below.refl _ _, rfl⟩
  | 4, _ =>
   obtain ⟨s42, e42, _⟩ := hw 3 (by omega) (by kernel_rfl)
   have e : v 3 = .agg #[.int .i64 k, .int .i64 n, .string s, .slice A L c] := e42
   rw [e] at s42
   refine grow_callc rfl rfl 66 45 (.int .i64 1) _ rfl _ (fun v u w => by go_simp) s42 ?_
   refine (partO r _ 1 w2 S hIn hraw (by decide)).mono ?_
   rintro e w3 ⟨cs, rfl, hcs, hb3⟩
   exact ⟨_, rfl, _, rfl, hb3, cs, rfl, hcs, hIn.later hb3.size⟩
  | 5, _ =>
   obtain ⟨s43, ⟨cs, e43, hcs, hin⟩, _⟩ := hw 4 (by omega) (by kernel_rfl)
   rw [e43] at s43
   refine grow_call1 rfl rfl 16 46 _ rfl _ (fun v w => by go_simp) s43 ?_
   refine (H1.out w2 cs hin hcs hT).mono ?_
   rintro e w3 ⟨o, p, rfl, hp, hb3, ok⟩
   exact ⟨_, rfl, _, rfl, hb3, o, p, rfl, hp.more (fun b h => by rcases h with h | h; exact h.elim; exact h), ok⟩
  | 6, _ =>
   obtain ⟨s44, ⟨o1, p1, e44, hp1, ok1⟩, l1, h44⟩ := hw 2 (by omega) (by kernel_rfl)
   obtain ⟨s47, ⟨o2, p2, e47, hp2, ok2⟩, l2, h47⟩ := hw 5 (by omega) (by kernel_rfl)
   rw [e44] at s44
   rw [e47] at s47
   refine grow_call2 rfl rfl 65 44 47 _ rfl _ _ (fun v u w => by go_simp) s44 s47 ?_
   refine (consO o1 o2 p1 p2 w2 (fun b => W.heap.size ≤ b ∧ b < w2.heap.size) (fun b h => h.2) (hp1.more fun b h => by omega) (hp2.more fun b h => by omega)).mono ?_
   rintro e w3 ⟨p, rfl, hp, hb3⟩
   have h23 := hb3.size
   have h02 := hb.size
   exact ⟨_, rfl, _, rfl, hb3, .cons o1 o2, p, rfl, hp.more (fun b h => by rcases h with h | h <;> omega), ⟨ok1.1, ok2.1⟩, by have := ok1.2; have := ok2.2; show 1 + o1.nodes + o2.nodes ≤ _; omega, ⟨ok1.3, ok2.3⟩⟩
 case done =>
  intro a w2 v lo hi hdef hsz hoth hb hj hap
  obtain ⟨h6, ⟨o, p, hv, hp, ok⟩, _, hhi⟩ := hj 6 (by omega)
  have ha := eq_puts hdef hsz hoth (fun i hi => (hj i hi).1)
  have hB := HM.out.below hb
  have hsz0 := HM.out.sz
  have hsb := hb.size
  have hg2 := qh9 hB.2.2
  have hbw := qh9 hB.1
  have HO := qh9 ok
  subst ha
  clear hj hap hoth hdef hsz ok hB hb h6
  simp only [puts, Nat.reduceAdd, hv]
  generalize v 0 = v0
  generalize v 1 = v1
  generalize v 2 = v2
  generalize v 3 = v3
  generalize v 4 = v4
  generalize v 5 = v5
  clear hv
  show wpList _ _ _ [_] _ _
  simp only [Act.put, List.setIfInBounds_toArray, List.set_cons_zero, List.set_cons_succ]
  go_wp2_with (refine storeV (w1 := w2) rfl (.tmp 2) (.tmp 48) rfl (w.heap.size + 1) _ _ rfl rfl hp _ _ hg2.out rfl ?_)
  exact retX (q := 2) rfl rfl hg2.out hp (fun h => by omega) (fun b hb => .inr ⟨by omega, by omega⟩) (by omega) hbw.out HO.out
def flatC (xs : List (Ob × Value)) : List Value := xs.flatMap fun x => cellsO x.1 x.2
theorem flatC_snoc (xs : List (Ob × Value)) (o : Ob) (p : Value) : flatC (xs ++ [(o, p)]) = flatC xs ++ cellsO o p := by simp [flatC]
def fsts (xs : List (Ob × Value)) : List Ob := xs.map (·.1)
theorem list_snoc_nodes : ∀ (l : List Ob) (o : Ob), (Ob.list (l ++ [o])).nodes = (Ob.list l).nodes + 1 + o.nodes
 | [], o => by show 1 + o.nodes + (Ob.list []).nodes = _; show 1 + o.nodes + 1 = 1 + 1 + o.nodes; omega
 | a :: l, o => by
  have := list_snoc_nodes l o
  show 1 + a.nodes + (Ob.list (l ++ [o])).nodes = 1 + a.nodes + (Ob.list l).nodes + 1 + o.nodes
  omega
theorem list_snoc_bd {k : Nat} : ∀ (l : List Ob) (o : Ob), (Ob.list l).bd k → o.bd k → (Ob.list (l ++ [o])).bd k
 | [], o, _, h => ⟨h, nil_ok⟩
 | a :: l, o, h, ho => ⟨h.1, list_snoc_bd l o h.2 ho⟩
theorem list_snoc_tx : ∀ (l : List Ob) (o : Ob), (Ob.list l).tx → o.tx → (Ob.list (l ++ [o])).tx
 | [], o, _, h => ⟨h, (show [110, 105, 108].length ≤ 8 by decide)⟩
 | a :: l, o, h, ho => ⟨h.1, list_snoc_tx l o h.2 ho⟩
theorem cnts_snoc : ∀ {l : List Rw} {i : Nat} (hi : i < l.length), Rw.cnts (l.take (i + 1)) = Rw.cnts (l.take i) + l[i].cnt
 | r :: rs, 0, _ => by simp [Rw.cnts]
 | r :: rs, i + 1, hi => by
  have := cnts_snoc (l := rs) (i := i) (by simpa using hi)
  simp only [List.take_succ_cons, Rw.cnts, List.getElem_cons_succ]
  omega

theorem own_lt {w : World} {base : Nat} {e : TypeId} {size n : Nat} {v : Value} {xs : List Value} (h : w.ownsRow base e size v n xs) : ∀ g, v.ownBlock = some g → base ≤ g ∧ g < w.heap.size := by
 intro g hg
 rcases h.2 with ⟨rfl, _⟩ | ⟨g', cap, cur, rfl, hb, hh, _⟩
 · simp [Value.ownBlock] at hg
 · have e : g' = g := by simpa [Value.ownBlock] using hg
   subst e
   exact ⟨hb, by
    rcases Nat.lt_or_ge g' w.heap.size with h | h
    · exact h
    · rw [Array.getElem?_eq_none h] at hh; cases hh⟩
theorem own_keep {w w' : World} {base : Nat} {e : TypeId} {size n : Nat} {v : Value} {xs : List Value} (h : w.ownsRow base e size v n xs) (hk : ∀ g, v.ownBlock = some g → w'.heap[g]? = w.heap[g]?) : w'.ownsRow base e size v n xs := by
 refine ⟨h.1, ?_⟩
 rcases h.2 with h0 | ⟨g', cap, cur, rfl, hb, hh, h1⟩
 · exact .inl h0
 · exact .inr ⟨g', cap, cur, rfl, hb, (hk g' rfl).trans hh, h1⟩
structure MkL (B : Nat) (W wr : World) (l : List Rw) (i : Nat) (v : Value) (xs : List (Ob × Value)) : Prop where
 len : xs.length = i
 own : wr.ownsRow B 33 7 v i (flatC xs)
 pairs : ∀ x ∈ xs, Pair wr (fun b => B ≤ b ∧ b < wr.heap.size ∧ v.ownBlock ≠ some b) x.1 x.2
 bd : (Ob.list (fsts xs)).bd 10
 nodes : (Ob.list (fsts xs)).nodes ≤ 1 + 4 * Rw.cnts (l.take i)
 bel : Below W.heap.size W wr
 tx : (Ob.list (fsts xs)).tx
theorem MkL.start (W : World) (l : List Rw) : MkL W.heap.size W W l 0 (.slice none 0 0) [] :=
 ⟨rfl, ⟨rfl, .inl ⟨rfl, rfl⟩⟩, fun x hx => by simp at hx, nil_ok, by simp [fsts, Ob.list, Ob.nodes, Ob.nil, Rw.cnts], Below.refl _ _, (show [110, 105, 108].length ≤ 8 by decide)⟩
theorem MkL.own3 {B : Nat} {W wo w3 : World} {l : List Rw} {i : Nat} {v : Value} {xs : List (Ob × Value)} (h : MkL B W wo l i v xs) (hb : Below wo.heap.size wo w3) (x : Obj) : (w3.alloc x).ownsRow B 33 7 v i (flatC xs) :=
 own_keep h.own fun g hg => by
  have := (own_lt h.own g hg).2
  rw [Below.heap_alloc _ _ _ (by have := hb.size; omega)]
  exact hb.block g this
theorem MkL.step {B : Nat} {W wo w3 w4 : World} {l : List Rw} {i : Nat} {v v' : Value} {xs : List (Ob × Value)} (h : MkL B W wo l i v xs) (hBW : B = W.heap.size) (hb : Below wo.heap.size wo w3) (x : Obj) (hi : i < l.length) {o : Ob} {p : Value}
 (hp : Pair w3 (Upto wo w3 NoB) o p) (ok : OkO (4 * l[i].cnt - 1) o) (h4 : w4.ownsRow B 33 7 v' (i + 1) (flatC xs ++ cellsO o p)) (hg : (w3.alloc x).grownBy w4 v.ownBlock) (hat : v'.ownBlock = v.ownBlock ∨ v'.ownBlock = some (w3.alloc x).heap.size) :
 MkL B W w4 l (i + 1) v' (xs ++ [(o, p)]) := by
 have hown := own_lt h.own
 have h34 := hg.size
 have hs3 := hb.size
 have hsW := h.bel.size
 simp only [World.size_alloc] at h34 hat
 have blk : ∀ b, b < w3.heap.size → v.ownBlock ≠ some b → w4.heap[b]? = w3.heap[b]? := fun b hb' hne =>
  (hg.block b (by simp; omega) (fun e => hne e.symm)).trans (Below.heap_alloc _ _ _ hb')
 have hne' : ∀ b, b < w3.heap.size → v.ownBlock ≠ some b → v'.ownBlock ≠ some b := fun b hb' hne e => by
  rcases hat with h0 | h0
  · exact hne (h0.symm.trans e)
  · rw [h0] at e
    have : w3.heap.size + 1 = b := by injection e
    omega
 refine ⟨by simp [h.len], by rw [flatC_snoc]; exact h4, fun y hy => ?_, ?_, ?_, ?_, by rw [fsts, List.map_append]; exact list_snoc_tx _ _ h.tx ok.3⟩
 · rcases List.mem_append.1 hy with hy | hy
   · refine (h.pairs y hy).keep (fun b hb' => ⟨hb'.1, by omega, hne' b (by omega) hb'.2.2⟩) (fun b hb' => ?_)
     rw [blk b (by omega) hb'.2.2, hb.block b hb'.2.1]
   · obtain rfl : y = (o, p) := by simpa using hy
     have hn : ∀ b, Upto wo w3 NoB b → wo.heap.size ≤ b ∧ b < w3.heap.size ∧ v.ownBlock ≠ some b := fun b hb' => by
      rcases hb' with h0 | h0
      · exact h0.elim
      · exact ⟨h0.1, h0.2, fun e => by have := (hown b e).2; omega⟩
     refine hp.keep (fun b hb' => ?_) (fun b hb' => ?_)
     · obtain ⟨h0, h1, h2⟩ := hn b hb'
       exact ⟨by omega, by omega, hne' b h1 h2⟩
     · obtain ⟨h0, h1, h2⟩ := hn b hb'
       exact blk b h1 h2
 · rw [fsts, List.map_append]
   exact list_snoc_bd _ _ h.bd ok.1
 · have h1 := h.nodes
   have h2 := ok.2
   have h3 := Rw.cnt_pos l[i]
   rw [fsts, List.map_append, cnts_snoc hi]
   show (Ob.list (fsts xs ++ [o])).nodes ≤ _
   rw [list_snoc_nodes]
   omega
 · have hb3 := h.bel.trans (hb.mono hsW)
   have hba := Below.alloc hb3 (by omega) x
   exact hba.grown hg hba.size (fun k hk => by have := (hown k hk).1; omega)

theorem obsAt_row {w : World} {S : Nat → Prop} {g : Nat} : ∀ (xs : List (Ob × Value)) (o : Nat), (∀ x ∈ xs, Pair w S x.1 x.2) → (∀ j u, (flatC xs)[j]? = some u → w.cell? ⟨g, o + j, none⟩ = some u) → ObsAt w S g o (fsts xs)
 | [], o, _, _ => by show ObsAt w S g o []; unfold ObsAt; trivial
 | (a, p) :: xs, o, hp, hc => by
  show ObsAt w S g o (a :: fsts xs)
  unfold ObsAt
  refine ⟨⟨p, hp (a, p) (by simp), fun j u hj => hc j u ?_⟩, obsAt_row xs (o + 7) (fun x hx => hp x (by simp [hx])) (fun j u hj => ?_)⟩
  · have hlt : j < (cellsO a p).length := by
     rcases Nat.lt_or_ge j (cellsO a p).length with h | h
     · exact h
     · rw [List.getElem?_eq_none h] at hj; cases hj
    show (cellsO a p ++ flatC xs)[j]? = some u
    rw [List.getElem?_append_left hlt]
    exact hj
  · rw [show o + 7 + j = o + (7 + j) from by omega]
    refine hc (7 + j) u ?_
    show (cellsO a p ++ flatC xs)[7 + j]? = some u
    rw [List.getElem?_append_right (by rw [cellsO_length]; omega), cellsO_length, show 7 + j - 7 = j by omega]
    exact hj
theorem MkL.slice {B : Nat} {W wr : World} {l : List Rw} {i : Nat} {v : Value} {xs : List (Ob × Value)} (h : MkL B W wr l i v xs) :
 ∃ A c, v = .slice A (fsts xs).length c ∧ (fsts xs).length ≤ c ∧ (0 < (fsts xs).length → ∃ b o, A = some ⟨b, o, none⟩ ∧ (B ≤ b ∧ b < wr.heap.size) ∧ ObsAt wr (fun b => B ≤ b ∧ b < wr.heap.size) b o (fsts xs)) := by
 have hl : (fsts xs).length = i := by simp [fsts, h.len]
 have ho := own_lt h.own
 rcases h.own.2 with ⟨rfl, rfl⟩ | ⟨g, cap, cur, rfl, hb, hh, hn, _, hcs, hcur⟩
 · exact ⟨none, 0, by rw [hl], by omega, fun h0 => by omega⟩
 · refine ⟨_, cap, by rw [hl], by omega, fun _ => ⟨g, 0, rfl, ho g rfl, obsAt_row xs 0 (fun x hx => (h.pairs x hx).more fun b hb => ⟨hb.1, hb.2.1⟩) fun j u hj => ?_⟩⟩
   rw [Nat.zero_add, cell_of_row _ _ _ _ _ _ hh]
   rw [← hcur] at hj
   rw [List.getElem?_take] at hj
   split at hj
   · simpa using hj
   · cases hj
theorem infoO : ∃ i, Tryz.prog.info? 33 = some i ∧ i.zero = some zeroO ∧ i.size = 7 ∧ i.bytes = 112 := info_of (P := Tryz.prog) (t := 33) (z := zeroO) (a := 7) (b := 112) (by kernel_rfl)
theorem newsO {w : World} {cs : Array Value} {t : TypeId} {b : Nat} (hb : b = w.heap.size) : ∀ j u, cs.toList[j]? = some u → (w.alloc (.cells cs t)).cell? ((⟨b, 0, none⟩ : Addr).add j) = some u := by
 intro j u hj
 subst hb
 have e : (Addr.add ⟨w.heap.size, 0, none⟩ j) = ⟨w.heap.size, j, none⟩ := by
  unfold Addr.add
  split
  · rename_i h; rw [h]
  · simp
 rw [e, cell_of_row _ _ _ _ _ _ (heap_alloc_new w _)]
 simpa using hj

theorem objList (k n : Int) (s : ByteArray) (A : Option Addr) (c : Nat) (w : World) (S : Nat → Prop) (hS : In S w) (l : List Rw) (hL : l.length ≤ 6) (hq : k % 8 = 6 ∨ k % 8 = 7) (hk : I64 k) (ht : Tab w)
 (hA : 0 < l.length → ∃ b o, A = some ⟨b, o, none⟩ ∧ S b ∧ RawsAt w S b o l) (hc : l.length ≤ c)
 (KI : ∀ i (hi : i < l.length), ∀ w cs, In S w → RawAt w S l[i] cs → Tab w → Calls Tryz.prog 16 #[.agg cs.toArray] w (RetX w (4 * l[i].cnt - 1))) :
 Calls Tryz.prog 16 #[.agg #[.int .i64 k, .int .i64 n, .string s, .slice A l.length c]] w (RetX w (1 + 4 * Rw.cnts l)) := by
 have HT := qh9 ht
 have HK := qh9 hk
 have HQ := qh9 hq
 have HS := qh9 hS
 have HA := qh9 hA
 have HI := qh9 KI
 clear hk hq ht hS hA KI
 obtain ⟨L, hLL⟩ : ∃ L, l.length = L := ⟨_, rfl⟩
 rw [hLL] at hL hc ⊢
 have HL := qh9 hLL
 clear hLL
 go_enter Tryz.func16, Tryz.ntmps16
 go_wp2_with fail
 have M := MkW.new w #[.int .i64 k, .int .i64 n, .string s, .slice A L c]
 refine (modO k 8 _ HK.out.1 HK.out.2 (by decide) (by decide)).mono ?_
 rintro e w1 ⟨rfl, rfl⟩
 generalize (w.alloc (.cells #[.int .i64 k, .int .i64 n, .string s, .slice A L c] 26)).alloc (.cells #[.int .i64 0, .string ⟨#[]⟩, .string ⟨#[]⟩, .string ⟨#[]⟩, .string ⟨#[]⟩, .string ⟨#[]⟩, .slice none 0 0] 33) = W at M ⊢
 have HM := qh9 M
 clear M
 have hq := HQ.out
 clear HQ
 generalize k % 8 = q at hq ⊢
 have h0 : Hid (MkL W.heap.size W W l 0 (.slice none 0 0) []) := MkL.start W l
 obtain ⟨i0, hi0, hz0, hz1, hz2⟩ := infoO
 have HI0 := qh9 hi0
 have HZ0 := qh9 hz0
 have HZ1 := qh9 hz1
 have HZ2 := qh9 hz2
 clear hi0 hz0 hz1 hz2
 rcases hq with rfl | rfl
 all_goals
  go_wp2_with fail
  go_loopw [3, 4] (fun u v wr => ∃ (i : Nat) (xs : List (Ob × Value)) (sl : Value), sl = u ∧ i ≤ L ∧ v = .int .i64 (i : Int) ∧ Hid (MkL W.heap.size W wr l i sl xs)) (fun _ v _ => L - (intOf v).toNat)
  case atStart => exact ⟨0, [], _, rfl, Nat.zero_le _, rfl, h0⟩
  case round =>
   clear h0
   obtain ⟨i, xs, sl, rfl, hiL, rfl, hE⟩ := hrel
   obtain ⟨wo, rfl⟩ : ∃ wo : World, wo = wr := ⟨_, rfl⟩
   have hbel := hE.out.bel
   have hB := HM.out.below hbel
   have d3 : wo.cell? ⟨w.heap.size, 3, none⟩ = some (.slice A L c) := by rw [cell_of_row _ _ _ _ _ _ hB.2.1]; rfl
   have hWw := HM.out.sz
   have hs1 := hbel.size
   by_cases hlt : i < L
   · have hil : i < l.length := by rw [HL.out]; exact hlt
     obtain ⟨b, o, hAe, hb, hrs⟩ := HA.out (by omega)
     rw [hAe] at d3
     clear hAe
     obtain ⟨cs, hcs, hcell⟩ := hrs.get hil
     have hcs' := hcs.below HS.out hB.1
     have ha0 : b < w.heap.size := HS.out b hb
     obtain ⟨z0, z1, z2, z3, rfl⟩ : ∃ z0 z1 z2 z3, cs = [z0, z1, z2, z3] := by
      generalize l[i] = r at hcs
      cases r with
      | mk k n s l => unfold RawAt at hcs; obtain ⟨A, c, e, _⟩ := hcs; exact ⟨_, _, _, _, e⟩
     have l0 := (hB.1.cell (p := ⟨b, o + i * 4 + 0, none⟩) ha0).trans (hcell 0 z0 rfl)
     have l1 := (hB.1.cell (p := ⟨b, o + i * 4 + 1, none⟩) ha0).trans (hcell 1 z1 rfl)
     have l2 := (hB.1.cell (p := ⟨b, o + i * 4 + 2, none⟩) ha0).trans (hcell 2 z2 rfl)
     have l3 := (hB.1.cell (p := ⟨b, o + i * 4 + 3, none⟩) ha0).trans (hcell 3 z3 rfl)
     rw [Nat.add_zero] at l0
     have call := qh9 (HI.out i hil wo [z0, z1, z2, z3] (HS.out.later hB.1.size) hcs' (HT.out.below hB.1))
     have HIL := qh9 hil
     clear hcell hcs hcs' hrs hbel
     go_wp2_with fail
     refine call.out.mono ?_
     rintro e w3 ⟨a, p, rfl, hp, hb3, ok⟩
     have own3 := qh9 (hE.out.own3 hb3 (.cells (cellsO a p).toArray 33))
     have HSTEP : Hid (∀ v' w4, w4.ownsRow W.heap.size 33 7 v' (i + 1) (flatC xs ++ cellsO a p) → (w3.alloc (.cells (cellsO a p).toArray 33)).grownBy w4 sl.ownBlock → (v'.ownBlock = sl.ownBlock ∨ v'.ownBlock = some (w3.alloc (.cells (cellsO a p).toArray 33)).heap.size) → MkL W.heap.size W w4 l (i + 1) v' (xs ++ [(a, p)])) :=
      fun v' w4 h4 hg hat => hE.out.step rfl hb3 _ HIL.out hp ok h4 hg hat
     have hone : ∀ u ∈ cellsO a p, u.oneCell' = true := by
      have := hp.one
      intro u hu
      rw [Array.all_eq_true_iff_forall_mem] at this
      exact this u (by simpa using hu)
     have hnews : ∀ j u, (cellsO a p)[j]? = some u → (w3.alloc (.cells (cellsO a p).toArray 33)).cell? ((⟨w3.heap.size, 0, none⟩ : Addr).add j) = some u := newsO (cs := (cellsO a p).toArray) rfl
     have hs3 : W.heap.size ≤ (w3.alloc (.cells (cellsO a p).toArray 33)).heap.size := by have := hb3.size; simp; omega
     obtain ⟨x0, x1, x2, x3, x4, x5, ea⟩ := cells7 a p
     rw [ea] at own3 HSTEP hone hnews hs3
     unfold vO
     rw [ea]
     have HONE := qh9 hone
     have HNEWS := qh9 hnews
     clear l0 l1 l2 l3 d3 hp hb3 ok call ea hone hnews hB hs1 hWw
     go_wp2_with (at_builtin; refine wpList_append_own_at _ rfl (.tmp 56) (.tmp 63) _ rfl W.heap.size 33 i0 _ 7 112 Tryz.underlying31 HI0.out HZ0.out HZ1.out HZ2.out rfl (by omega) sl i (flatC xs) rfl own3.out ⟨w3.heap.size, 0, none⟩ 1 1 [x0, x1, x2, x3, x4, x5, p] rfl rfl HNEWS.out HONE.out (by simp only [maxLen]; omega) (by omega) hs3 ?_; intro v4 w4 hown4 hg4 hnil4 hat4; have hst := qh9 (HSTEP.out v4 w4 hown4 hg4 hat4); clear hown4 hg4 hnil4 hat4)
     go_roundw
     case rel => exact ⟨i + 1, _, _, rfl, by omega, by go_num, hst⟩
     case measure => simp [intOf]; omega
   · have hiL2 : i = L := by omega
     have hn : ¬ (i : Int) < L := by omega
     have hbel2 := qh9 hB.1
     have hg2 := qh9 hB.2.2
     have hnod := hE.out.nodes
     rw [hiL2, ← HL.out, List.take_length] at hnod
     have OK : Hid (OkO (1 + 4 * Rw.cnts l) (Ob.list (fsts xs))) := ⟨hE.out.bd, hnod, hE.out.tx⟩
     have hlen : (fsts xs).length = i := by simp [fsts, hE.out.len]
     obtain ⟨A', c', hsl, hc', hA'⟩ := hE.out.slice
     have call := qh9 (listO (fsts xs) A' c' wo (fun b => W.heap.size ≤ b ∧ b < wo.heap.size) (fun b h => h.2) hc' (by omega) hA')
     clear hE
     subst hsl
     have HL2 := qh9 hlen
     clear hlen hc' hA' hnod hB hbel hiL2 hlt
     generalize fsts xs = os at call OK
     go_wp2_with fail
     refine call.out.mono ?_
     rintro e w2 ⟨p, rfl, hp, hb2⟩
     have hs2 := hb2.size
     have hg3 := qh9 ((hb2.block (w.heap.size + 1) (by omega)).trans hg2.out)
     have hbw := qh9 (hbel2.out.trans (hb2.mono (by omega)))
     clear call hb2 d3
     go_wp2_with (refine storeV (w1 := w2) rfl (.tmp 2) (.tmp 66) rfl (w.heap.size + 1) _ _ rfl rfl hp _ _ hg3.out rfl ?_)
     exact retX (q := 2) rfl rfl hg3.out hp (fun h => by
      rcases h with h | h <;> omega) (fun b hb => .inr (by rcases hb with h | h <;> omega)) (by omega) hbw.out OK.out
theorem RetX.le {w w' : World} {m m' : Nat} {e : Ending} (h : RetX w m e w') (hm : m ≤ m') : RetX w m' e w' := by
 obtain ⟨o, p, h1, h2, h3, h4⟩ := h
 exact ⟨o, p, h1, h2, h3, h4.1, Nat.le_trans h4.2 hm, h4.3⟩
def partM (l : List Rw) (i : Nat) : Nat := match l[i]? with
 | some r => 4 * r.cnt - 1
 | none => 1
theorem partM_le : ∀ l : List Rw, 1 + partM l 0 + partM l 1 ≤ 4 * (1 + Rw.cnts l) - 1
 | [] => by simp [partM, Rw.cnts]
 | [a] => by
  have := a.cnt_pos
  simp [partM, Rw.cnts]; omega
 | a :: b :: l => by
  have := a.cnt_pos
  have := b.cnt_pos
  simp [partM, Rw.cnts]; omega

theorem objEmpty (cs : List Value) (w : World) (S : Nat → Prop) (h : RawAt w S (.mk 0 0 ⟨#[]⟩ []) cs) (ht : Tab w) : Calls Tryz.prog 16 #[.agg cs.toArray] w (RetX w 1) := by
 unfold RawAt at h
 obtain ⟨A, c, rfl, hk, hn, _⟩ := h
 exact objInt 0 0 ⟨#[]⟩ A 0 c w 1 (Nat.le_refl _) (.inl rfl) hk hn ht

theorem objectO : ∀ (r : Rw) (cs : List Value) (w : World) (S : Nat → Prop), In S w → RawAt w S r cs → r.ok → Tab w → Calls Tryz.prog 16 #[.agg cs.toArray] w (RetX w (4 * r.cnt - 1)) := by
 intro r
 induction r using Rw.ind with
 | h k n s l ih =>
  intro cs w S hS h hok ht
  have h' := h
  unfold RawAt at h
  obtain ⟨A, c, rfl, hk, hn, hc, hcm, hA⟩ := h
  unfold Rw.ok at hok
  obtain ⟨hs, hl, hoks⟩ := hok
  have hcnt : (Rw.mk k n s l).cnt = 1 + Rw.cnts l := by unfold Rw.cnt; rfl
  rw [hcnt]
  have q0 := Int.emod_nonneg k (show (8 : Int) ≠ 0 by decide)
  have q1 := Int.emod_lt_of_pos k (show (0 : Int) < 8 by decide)
  have hq : k % 8 = 0 ∨ k % 8 = 1 ∨ k % 8 = 2 ∨ k % 8 = 3 ∨ k % 8 = 4 ∨ k % 8 = 5 ∨ k % 8 = 6 ∨ k % 8 = 7 := by omega
  have m1 : 1 ≤ 4 * (1 + Rw.cnts l) - 1 := by omega
  have KP : ∀ i w cs, In S w → RawAt w S (partV (.mk k n s l) i) cs → Tab w → Calls Tryz.prog 16 #[.agg cs.toArray] w (RetX w (partM l i)) := by
   intro i w cs hS hr ht
   have e : partV (.mk k n s l) i = l.getD i (.mk 0 0 ⟨#[]⟩ []) := rfl
   rw [e, List.getD_eq_getElem?_getD] at hr
   unfold partM
   by_cases hi : i < l.length
   · rw [List.getElem?_eq_getElem hi] at hr ⊢
     exact ih l[i] (List.getElem_mem hi) cs w S hS hr (Rw.oks_mem hoks _ (List.getElem_mem hi)) ht
   · rw [List.getElem?_eq_none (by omega)] at hr ⊢
     exact objEmpty cs w S hr ht
  rcases hq with hq | hq | hq | hq | hq | hq | hq | hq
  · exact objInt k n s A l.length c w _ m1 (.inl hq) hk hn ht
  · exact objInt k n s A l.length c w _ m1 (.inr hq) hk hn ht
  · exact objRat k n s A l.length c w _ m1 hq hk hn hs ht
  · exact objSym k n s A l.length c w _ m1 hq hk hn
  · exact objText k n s A l.length c w _ m1 hq hk (by omega)
  · exact (objCons k n s A l.length c w S hS _ (partM l 0) (partM l 1) hq hk ht h' (KP 0) (KP 1)).mono fun _ _ hr => hr.le (partM_le l)
  · exact (objList k n s A c w S hS l hl (.inl hq) hk ht hA hc (fun i hi w cs hS hr ht => ih l[i] (List.getElem_mem hi) cs w S hS hr (Rw.oks_mem hoks _ (List.getElem_mem hi)) ht)).mono fun _ _ hr => hr.le (by omega)
  · exact (objList k n s A c w S hS l hl (.inr hq) hk ht hA hc (fun i hi w cs hS hr ht => ih l[i] (List.getElem_mem hi) cs w S hS hr (Rw.oks_mem hoks _ (List.getElem_mem hi)) ht)).mono fun _ _ hr => hr.le (by omega)

end Go.Proofs.YtinjhnnpbejccaaGreatDoor
