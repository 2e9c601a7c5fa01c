/- The maker of objects: a cons of two parts. -/
import Derived.Test.YtfnkmgipjemkdaaGreatDoorG14
import Derived.Test.YtfnkmgipjemkdaaGreatDoorG16
import Derived.Maps.AppendAt
import Derived.Test.YtfnkmgipjemkdaaGreatDoorG13
namespace Go.Proofs.YtfnkmgipjemkdaaGreatDoor
open Go Go.RowKit
set_option linter.unusedVariables false

/-- What each operation of the region leaves. -/
def consR (S : Nat → Prop) (r : Rw) (B m0 m1 : Nat) (raw : Value) (i : Nat) (v : Value) (lo hi : Nat) (w : World) : Prop :=
  match i with
  | 0 => v = raw
  | 1 => ∃ cs, v = .agg cs.toArray ∧ RawAt w S (partV r 0) cs ∧ In S w
  | 2 => ∃ o p, v = vO o p ∧ Pair w (fun b => lo ≤ b ∧ b < hi) o p ∧ OkO m0 o
  | 3 => v = raw
  | 4 => ∃ cs, v = .agg cs.toArray ∧ RawAt w S (partV r 1) cs ∧ In S w
  | 5 => ∃ o p, v = vO o p ∧ Pair w (fun b => lo ≤ b ∧ b < hi) o p ∧ OkO m1 o
  | _ => ∃ o p, v = vO o p ∧ Pair w (fun b => B ≤ b ∧ b < hi) o p ∧ OkO (1 + m0 + m1) o
theorem consR_mono {S : Nat → Prop} {r : Rw} {B m0 m1 : Nat} {raw : Value} : ∀ i x l m w w', consR S r B m0 m1 raw i x l m w → m ≤ w.heap.size → Below w.heap.size w w' → consR S r B m0 m1 raw i x l m w' := by
  intro i x l m w w' h hm hb
  match i, h with
  | 0, h => exact h
  | 3, h => exact h
  | 1, ⟨cs, h1, h2, h3⟩ => exact ⟨cs, h1, h2.below h3 hb, h3.later hb.size⟩
  | 4, ⟨cs, h1, h2, h3⟩ => exact ⟨cs, h1, h2.below h3 hb, h3.later hb.size⟩
  | 2, ⟨o, p, h1, h2, h3⟩ => exact ⟨o, p, h1, h2.below (fun b hb => by omega) hb, h3⟩
  | 5, ⟨o, p, h1, h2, h3⟩ => exact ⟨o, p, h1, h2.below (fun b hb => by omega) hb, h3⟩
  | i + 6, ⟨o, p, h1, h2, h3⟩ => exact ⟨o, p, h1, h2.below (fun b hb => by omega) hb, h3⟩

set_option maxHeartbeats 8000000 in
set_option maxRecDepth 100000 in
theorem objCons (k n : Int) (s : ByteArray) (A : Option Addr) (L c : Nat) (w : World) (S : Nat → Prop) (hS : In S w) (r : Rw) (m0 m1 : Nat) (hq : k % 8 = 5) (hk : I64 k) (ht : Tab w)
    (hr : RawAt w S r [.int .i64 k, .int .i64 n, .string s, .slice A L c])
    (K0 : ∀ w cs, In S w → RawAt w S (partV r 0) cs → Tab w → Calls Tryz.prog 10 #[.agg cs.toArray] w (RetX w m0))
    (K1 : ∀ w cs, In S w → RawAt w S (partV r 1) cs → Tab w → Calls Tryz.prog 10 #[.agg cs.toArray] w (RetX w m1)) :
    Calls Tryz.prog 10 #[.agg #[.int .i64 k, .int .i64 n, .string s, .slice A L c]] w (RetX w (1 + m0 + m1)) := by
  have HT := Lib.hid ht
  have HK := Lib.hid hk
  have HQ := Lib.hid hq
  have HS := Lib.hid hS
  have HR := Lib.hid hr
  have H0 := Lib.hid K0
  have H1 := Lib.hid K1
  clear hk hq ht hS hr K0 K1
  go_enter Tryz.func10, Tryz.ntmps10
  go_wp2_with fail
  have M := MkW.new w #[.int .i64 k, .int .i64 n, .string s, .slice A L c]
  refine (modO k 8 _ HK.out.1 HK.out.2 (by decide) (by decide)).mono ?_
  rintro e w1 ⟨rfl, rfl⟩
  generalize (w.alloc (.cells #[.int .i64 k, .int .i64 n, .string s, .slice A L c] 26)).alloc (.cells #[.int .i64 0, .string ⟨#[]⟩, .string ⟨#[]⟩, .string ⟨#[]⟩, .string ⟨#[]⟩, .string ⟨#[]⟩, .slice none 0 0] 31) = W at M ⊢
  have HM := Lib.hid M
  clear M
  have hq := HQ.out
  clear HQ
  generalize k % 8 = q at hq ⊢
  subst hq
  go_wp2_with fail
  have HSW := HS.out.later HM.out.bel.size
  refine wp_region_grow (l := _) 7 (by kernel_rfl) (by kernel_rfl) (fun i => 42 + i) (consR S r W.heap.size m0 m1 (.agg #[.int .i64 k, .int .i64 n, .string s, .slice A L c])) consR_mono (fun i j _ _ h => by omega) (fun i hi => by show 42 + i < 67; omega) ?step ?done
  case step =>
    intro i hi a w2 v lo hi' hoth hb hw
    have hB := HM.out.below hb
    have h1 : a.tmps[1]? = some (.pointer (some ⟨w.heap.size, 0, none⟩)) := (hoth 1 (fun j hj => by omega)).trans rfl
    have hT : Tab w2 := HT.out.below hB.1
    have hIn : In S w2 := HS.out.later hB.1.size
    have hraw : RawAt w2 S r [.int .i64 k, .int .i64 n, .string s, .slice A L c] := HR.out.below HS.out hB.1
    match i, hi with
    | 0, _ =>
      refine grow_load rfl rfl 26 (.tmp 1) rfl w.heap.size 0 (eval_of h1) [.int .i64 k, .int .i64 n, .string s, .slice A L c] _ (World.rangeAt_of_block hB.2.1 0 4) Tryz.underlying26 rfl (by kernel_rfl) ⟨_, rfl, Below.refl _ _, rfl⟩
    | 1, _ =>
      obtain ⟨s42, e42, _⟩ := hw 0 (by omega) (by kernel_rfl)
      have e : v 0 = .agg #[.int .i64 k, .int .i64 n, .string s, .slice A L c] := e42
      rw [e] at s42
      refine grow_callc rfl rfl 55 42 (.int .i64 0) _ rfl _ (fun v u w => by go_simp) s42 ?_
      refine (partO r _ 0 w2 S hIn hraw (by decide)).mono ?_
      rintro e w3 ⟨cs, rfl, hcs, hb3⟩
      exact ⟨_, rfl, _, rfl, hb3, cs, rfl, hcs, hIn.later hb3.size⟩
    | 2, _ =>
      obtain ⟨s43, ⟨cs, e43, hcs, hin⟩, _⟩ := hw 1 (by omega) (by kernel_rfl)
      rw [e43] at s43
      refine grow_call1 rfl rfl 10 43 _ rfl _ (fun v w => by go_simp) s43 ?_
      refine (H0.out w2 cs hin hcs hT).mono ?_
      rintro e w3 ⟨o, p, rfl, hp, hb3, ok⟩
      exact ⟨_, rfl, _, rfl, hb3, o, p, rfl, hp.more (fun b h => by rcases h with h | h; exact h.elim; exact h), ok⟩
    | 3, _ =>
      refine grow_load rfl rfl 26 (.tmp 1) rfl w.heap.size 0 (eval_of h1) [.int .i64 k, .int .i64 n, .string s, .slice A L c] _ (World.rangeAt_of_block hB.2.1 0 4) Tryz.underlying26 rfl (by kernel_rfl) ⟨_, rfl, Below.refl _ _, rfl⟩
    | 4, _ =>
      obtain ⟨s42, e42, _⟩ := hw 3 (by omega) (by kernel_rfl)
      have e : v 3 = .agg #[.int .i64 k, .int .i64 n, .string s, .slice A L c] := e42
      rw [e] at s42
      refine grow_callc rfl rfl 55 45 (.int .i64 1) _ rfl _ (fun v u w => by go_simp) s42 ?_
      refine (partO r _ 1 w2 S hIn hraw (by decide)).mono ?_
      rintro e w3 ⟨cs, rfl, hcs, hb3⟩
      exact ⟨_, rfl, _, rfl, hb3, cs, rfl, hcs, hIn.later hb3.size⟩
    | 5, _ =>
      obtain ⟨s43, ⟨cs, e43, hcs, hin⟩, _⟩ := hw 4 (by omega) (by kernel_rfl)
      rw [e43] at s43
      refine grow_call1 rfl rfl 10 46 _ rfl _ (fun v w => by go_simp) s43 ?_
      refine (H1.out w2 cs hin hcs hT).mono ?_
      rintro e w3 ⟨o, p, rfl, hp, hb3, ok⟩
      exact ⟨_, rfl, _, rfl, hb3, o, p, rfl, hp.more (fun b h => by rcases h with h | h; exact h.elim; exact h), ok⟩
    | 6, _ =>
      obtain ⟨s44, ⟨o1, p1, e44, hp1, ok1⟩, l1, h44⟩ := hw 2 (by omega) (by kernel_rfl)
      obtain ⟨s47, ⟨o2, p2, e47, hp2, ok2⟩, l2, h47⟩ := hw 5 (by omega) (by kernel_rfl)
      rw [e44] at s44
      rw [e47] at s47
      refine grow_call2 rfl rfl 21 44 47 _ rfl _ _ (fun v u w => by go_simp) s44 s47 ?_
      refine (consO o1 o2 p1 p2 w2 (fun b => W.heap.size ≤ b ∧ b < w2.heap.size) (fun b h => h.2) (hp1.more fun b h => by omega) (hp2.more fun b h => by omega)).mono ?_
      rintro e w3 ⟨p, rfl, hp, hb3⟩
      have h23 := hb3.size
      have h02 := hb.size
      exact ⟨_, rfl, _, rfl, hb3, .cons o1 o2, p, rfl, hp.more (fun b h => by rcases h with h | h <;> omega), ⟨ok1.1, ok2.1⟩, by have := ok1.2; have := ok2.2; show 1 + o1.nodes + o2.nodes ≤ _; omega⟩
  case done =>
    intro a w2 v lo hi hdef hsz hoth hb hj hap
    obtain ⟨h6, ⟨o, p, hv, hp, ok⟩, _, hhi⟩ := hj 6 (by omega)
    have ha := eq_puts hdef hsz hoth (fun i hi => (hj i hi).1)
    have hB := HM.out.below hb
    have hsz0 := HM.out.sz
    have hsb := hb.size
    have hg2 := Lib.hid hB.2.2
    have hbw := Lib.hid hB.1
    have HO := Lib.hid ok
    subst ha
    clear hj hap hoth hdef hsz ok hB hb h6
    simp only [puts, Nat.reduceAdd, hv]
    generalize v 0 = v0
    generalize v 1 = v1
    generalize v 2 = v2
    generalize v 3 = v3
    generalize v 4 = v4
    generalize v 5 = v5
    clear hv
    show wpList _ _ _ [_] _ _
    simp only [Act.put, List.setIfInBounds_toArray, List.set_cons_zero, List.set_cons_succ]
    go_wp2_with (refine storeV (w1 := w2) rfl (.tmp 2) (.tmp 48) rfl (w.heap.size + 1) _ _ rfl rfl hp _ _ hg2.out rfl ?_)
    exact retX (q := 2) rfl rfl hg2.out hp (fun h => by omega) (fun b hb => .inr ⟨by omega, by omega⟩) (by omega) hbw.out HO.out
end Go.Proofs.YtfnkmgipjemkdaaGreatDoor

/- The maker of objects: a slice of made objects that grows. No walk yet. -/
namespace Go.Proofs.YtfnkmgipjemkdaaGreatDoor
open Go Go.RowKit
set_option linter.unusedVariables false

def flatC (xs : List (Ob × Value)) : List Value := xs.flatMap fun x => cellsO x.1 x.2
theorem flatC_snoc (xs : List (Ob × Value)) (o : Ob) (p : Value) : flatC (xs ++ [(o, p)]) = flatC xs ++ cellsO o p := by simp [flatC]
def fsts (xs : List (Ob × Value)) : List Ob := xs.map (·.1)
theorem list_snoc_nodes : ∀ (l : List Ob) (o : Ob), (Ob.list (l ++ [o])).nodes = (Ob.list l).nodes + 1 + o.nodes
  | [], o => by show 1 + o.nodes + (Ob.list []).nodes = _; show 1 + o.nodes + 1 = 1 + 1 + o.nodes; omega
  | a :: l, o => by
    have := list_snoc_nodes l o
    show 1 + a.nodes + (Ob.list (l ++ [o])).nodes = 1 + a.nodes + (Ob.list l).nodes + 1 + o.nodes
    omega
theorem list_snoc_bd {k : Nat} : ∀ (l : List Ob) (o : Ob), (Ob.list l).bd k → o.bd k → (Ob.list (l ++ [o])).bd k
  | [], o, _, h => ⟨h, trivial⟩
  | a :: l, o, h, ho => ⟨h.1, list_snoc_bd l o h.2 ho⟩
theorem cnts_snoc : ∀ {l : List Rw} {i : Nat} (hi : i < l.length), Rw.cnts (l.take (i + 1)) = Rw.cnts (l.take i) + l[i].cnt
  | r :: rs, 0, _ => by simp [Rw.cnts]
  | r :: rs, i + 1, hi => by
    have := cnts_snoc (l := rs) (i := i) (by simpa using hi)
    simp only [List.take_succ_cons, Rw.cnts, List.getElem_cons_succ]
    omega

theorem own_lt {w : World} {base : Nat} {e : TypeId} {size n : Nat} {v : Value} {xs : List Value} (h : w.ownsRow base e size v n xs) : ∀ g, v.ownBlock = some g → base ≤ g ∧ g < w.heap.size := by
  intro g hg
  rcases h.2 with ⟨rfl, _⟩ | ⟨g', cap, cur, rfl, hb, hh, _⟩
  · simp [Value.ownBlock] at hg
  · have e : g' = g := by simpa [Value.ownBlock] using hg
    subst e
    exact ⟨hb, by
      rcases Nat.lt_or_ge g' w.heap.size with h | h
      · exact h
      · rw [Array.getElem?_eq_none h] at hh; cases hh⟩
theorem own_keep {w w' : World} {base : Nat} {e : TypeId} {size n : Nat} {v : Value} {xs : List Value} (h : w.ownsRow base e size v n xs) (hk : ∀ g, v.ownBlock = some g → w'.heap[g]? = w.heap[g]?) : w'.ownsRow base e size v n xs := by
  refine ⟨h.1, ?_⟩
  rcases h.2 with h0 | ⟨g', cap, cur, rfl, hb, hh, h1⟩
  · exact .inl h0
  · exact .inr ⟨g', cap, cur, rfl, hb, (hk g' rfl).trans hh, h1⟩

/-- The objects made so far lie in a row of their own. -/
structure MkL (B : Nat) (W wr : World) (l : List Rw) (i : Nat) (v : Value) (xs : List (Ob × Value)) : Prop where
  len : xs.length = i
  own : wr.ownsRow B 31 7 v i (flatC xs)
  pairs : ∀ x ∈ xs, Pair wr (fun b => B ≤ b ∧ b < wr.heap.size ∧ v.ownBlock ≠ some b) x.1 x.2
  bd : (Ob.list (fsts xs)).bd 20
  nodes : (Ob.list (fsts xs)).nodes ≤ 1 + 4 * Rw.cnts (l.take i)
  bel : Below W.heap.size W wr
theorem MkL.start (W : World) (l : List Rw) : MkL W.heap.size W W l 0 (.slice none 0 0) [] :=
  ⟨rfl, ⟨rfl, .inl ⟨rfl, rfl⟩⟩, fun x hx => by simp at hx, trivial, by simp [fsts, Ob.list, Ob.nodes, Ob.nil, Rw.cnts], Below.refl _ _⟩
theorem MkL.own3 {B : Nat} {W wo w3 : World} {l : List Rw} {i : Nat} {v : Value} {xs : List (Ob × Value)} (h : MkL B W wo l i v xs) (hb : Below wo.heap.size wo w3) (x : Obj) : (w3.alloc x).ownsRow B 31 7 v i (flatC xs) :=
  own_keep h.own fun g hg => by
    have := (own_lt h.own g hg).2
    rw [Below.heap_alloc _ _ _ (by have := hb.size; omega)]
    exact hb.block g this
theorem MkL.step {B : Nat} {W wo w3 w4 : World} {l : List Rw} {i : Nat} {v v' : Value} {xs : List (Ob × Value)} (h : MkL B W wo l i v xs) (hBW : B = W.heap.size) (hb : Below wo.heap.size wo w3) (x : Obj) (hi : i < l.length) {o : Ob} {p : Value}
    (hp : Pair w3 (Upto wo w3 NoB) o p) (ok : OkO (4 * l[i].cnt - 1) o) (h4 : w4.ownsRow B 31 7 v' (i + 1) (flatC xs ++ cellsO o p)) (hg : (w3.alloc x).grownBy w4 v.ownBlock) (hat : v'.ownBlock = v.ownBlock ∨ v'.ownBlock = some (w3.alloc x).heap.size) :
    MkL B W w4 l (i + 1) v' (xs ++ [(o, p)]) := by
  have hown := own_lt h.own
  have h34 := hg.size
  have hs3 := hb.size
  have hsW := h.bel.size
  simp only [World.size_alloc] at h34 hat
  have blk : ∀ b, b < w3.heap.size → v.ownBlock ≠ some b → w4.heap[b]? = w3.heap[b]? := fun b hb' hne =>
    (hg.block b (by simp; omega) (fun e => hne e.symm)).trans (Below.heap_alloc _ _ _ hb')
  have hne' : ∀ b, b < w3.heap.size → v.ownBlock ≠ some b → v'.ownBlock ≠ some b := fun b hb' hne e => by
    rcases hat with h0 | h0
    · exact hne (h0.symm.trans e)
    · rw [h0] at e
      have : w3.heap.size + 1 = b := by injection e
      omega
  refine ⟨by simp [h.len], by rw [flatC_snoc]; exact h4, fun y hy => ?_, ?_, ?_, ?_⟩
  · rcases List.mem_append.1 hy with hy | hy
    · refine (h.pairs y hy).keep (fun b hb' => ⟨hb'.1, by omega, hne' b (by omega) hb'.2.2⟩) (fun b hb' => ?_)
      rw [blk b (by omega) hb'.2.2, hb.block b hb'.2.1]
    · obtain rfl : y = (o, p) := by simpa using hy
      have hn : ∀ b, Upto wo w3 NoB b → wo.heap.size ≤ b ∧ b < w3.heap.size ∧ v.ownBlock ≠ some b := fun b hb' => by
        rcases hb' with h0 | h0
        · exact h0.elim
        · exact ⟨h0.1, h0.2, fun e => by have := (hown b e).2; omega⟩
      refine hp.keep (fun b hb' => ?_) (fun b hb' => ?_)
      · obtain ⟨h0, h1, h2⟩ := hn b hb'
        exact ⟨by omega, by omega, hne' b h1 h2⟩
      · obtain ⟨h0, h1, h2⟩ := hn b hb'
        exact blk b h1 h2
  · rw [fsts, List.map_append]
    exact list_snoc_bd _ _ h.bd ok.1
  · have h1 := h.nodes
    have h2 := ok.2
    have h3 := Rw.cnt_pos l[i]
    rw [fsts, List.map_append, cnts_snoc hi]
    show (Ob.list (fsts xs ++ [o])).nodes ≤ _
    rw [list_snoc_nodes]
    omega
  · have hb3 := h.bel.trans (hb.mono hsW)
    have hba := Below.alloc hb3 (by omega) x
    exact hba.grown hg hba.size (fun k hk => by have := (hown k hk).1; omega)

theorem obsAt_row {w : World} {S : Nat → Prop} {g : Nat} : ∀ (xs : List (Ob × Value)) (o : Nat), (∀ x ∈ xs, Pair w S x.1 x.2) → (∀ j u, (flatC xs)[j]? = some u → w.cell? ⟨g, o + j, none⟩ = some u) → ObsAt w S g o (fsts xs)
  | [], o, _, _ => by show ObsAt w S g o []; unfold ObsAt; trivial
  | (a, p) :: xs, o, hp, hc => by
    show ObsAt w S g o (a :: fsts xs)
    unfold ObsAt
    refine ⟨⟨p, hp (a, p) (by simp), fun j u hj => hc j u ?_⟩, obsAt_row xs (o + 7) (fun x hx => hp x (by simp [hx])) (fun j u hj => ?_)⟩
    · have hlt : j < (cellsO a p).length := by
        rcases Nat.lt_or_ge j (cellsO a p).length with h | h
        · exact h
        · rw [List.getElem?_eq_none h] at hj; cases hj
      show (cellsO a p ++ flatC xs)[j]? = some u
      rw [List.getElem?_append_left hlt]
      exact hj
    · rw [show o + 7 + j = o + (7 + j) from by omega]
      refine hc (7 + j) u ?_
      show (cellsO a p ++ flatC xs)[7 + j]? = some u
      rw [List.getElem?_append_right (by rw [cellsO_length]; omega), cellsO_length, show 7 + j - 7 = j by omega]
      exact hj
/-- The row as a slice of objects. -/
theorem MkL.slice {B : Nat} {W wr : World} {l : List Rw} {i : Nat} {v : Value} {xs : List (Ob × Value)} (h : MkL B W wr l i v xs) :
    ∃ A c, v = .slice A (fsts xs).length c ∧ (fsts xs).length ≤ c ∧ (0 < (fsts xs).length → ∃ b o, A = some ⟨b, o, none⟩ ∧ (B ≤ b ∧ b < wr.heap.size) ∧ ObsAt wr (fun b => B ≤ b ∧ b < wr.heap.size) b o (fsts xs)) := by
  have hl : (fsts xs).length = i := by simp [fsts, h.len]
  have ho := own_lt h.own
  rcases h.own.2 with ⟨rfl, rfl⟩ | ⟨g, cap, cur, rfl, hb, hh, hn, _, hcs, hcur⟩
  · exact ⟨none, 0, by rw [hl], by omega, fun h0 => by omega⟩
  · refine ⟨_, cap, by rw [hl], by omega, fun _ => ⟨g, 0, rfl, ho g rfl, obsAt_row xs 0 (fun x hx => (h.pairs x hx).more fun b hb => ⟨hb.1, hb.2.1⟩) fun j u hj => ?_⟩⟩
    rw [Nat.zero_add, cell_of_row _ _ _ _ _ _ hh]
    rw [← hcur] at hj
    rw [List.getElem?_take] at hj
    split at hj
    · simpa using hj
    · cases hj
end Go.Proofs.YtfnkmgipjemkdaaGreatDoor

/- The maker of objects: a list of parts. -/
namespace Go.Proofs.YtfnkmgipjemkdaaGreatDoor
open Go Go.RowKit
set_option linter.unusedVariables false

theorem infoO : ∃ i, Tryz.prog.info? 31 = some i ∧ i.zero = some zeroO ∧ i.size = 7 ∧ i.bytes = 112 := info_of (P := Tryz.prog) (t := 31) (z := zeroO) (a := 7) (b := 112) (by kernel_rfl)
theorem newsO {w : World} {cs : Array Value} {t : TypeId} {b : Nat} (hb : b = w.heap.size) : ∀ j u, cs.toList[j]? = some u → (w.alloc (.cells cs t)).cell? ((⟨b, 0, none⟩ : Addr).add j) = some u := by
  intro j u hj
  subst hb
  have e : (Addr.add ⟨w.heap.size, 0, none⟩ j) = ⟨w.heap.size, j, none⟩ := by
    unfold Addr.add
    split
    · rename_i h; rw [h]
    · simp
  rw [e, cell_of_row _ _ _ _ _ _ (heap_alloc_new w _)]
  simpa using hj

set_option maxHeartbeats 8000000 in
set_option maxRecDepth 100000 in
theorem objList (k n : Int) (s : ByteArray) (A : Option Addr) (c : Nat) (w : World) (S : Nat → Prop) (hS : In S w) (l : List Rw) (hL : l.length ≤ 6) (hq : k % 8 = 6 ∨ k % 8 = 7) (hk : I64 k) (ht : Tab w)
    (hA : 0 < l.length → ∃ b o, A = some ⟨b, o, none⟩ ∧ S b ∧ RawsAt w S b o l) (hc : l.length ≤ c)
    (KI : ∀ i (hi : i < l.length), ∀ w cs, In S w → RawAt w S l[i] cs → Tab w → Calls Tryz.prog 10 #[.agg cs.toArray] w (RetX w (4 * l[i].cnt - 1))) :
    Calls Tryz.prog 10 #[.agg #[.int .i64 k, .int .i64 n, .string s, .slice A l.length c]] w (RetX w (1 + 4 * Rw.cnts l)) := by
  have HT := Lib.hid ht
  have HK := Lib.hid hk
  have HQ := Lib.hid hq
  have HS := Lib.hid hS
  have HA := Lib.hid hA
  have HI := Lib.hid KI
  clear hk hq ht hS hA KI
  obtain ⟨L, hLL⟩ : ∃ L, l.length = L := ⟨_, rfl⟩
  rw [hLL] at hL hc ⊢
  have HL := Lib.hid hLL
  clear hLL
  go_enter Tryz.func10, Tryz.ntmps10
  go_wp2_with fail
  have M := MkW.new w #[.int .i64 k, .int .i64 n, .string s, .slice A L c]
  refine (modO k 8 _ HK.out.1 HK.out.2 (by decide) (by decide)).mono ?_
  rintro e w1 ⟨rfl, rfl⟩
  generalize (w.alloc (.cells #[.int .i64 k, .int .i64 n, .string s, .slice A L c] 26)).alloc (.cells #[.int .i64 0, .string ⟨#[]⟩, .string ⟨#[]⟩, .string ⟨#[]⟩, .string ⟨#[]⟩, .string ⟨#[]⟩, .slice none 0 0] 31) = W at M ⊢
  have HM := Lib.hid M
  clear M
  have hq := HQ.out
  clear HQ
  generalize k % 8 = q at hq ⊢
  have h0 : Hid (MkL W.heap.size W W l 0 (.slice none 0 0) []) := MkL.start W l
  obtain ⟨i0, hi0, hz0, hz1, hz2⟩ := infoO
  have HI0 := Lib.hid hi0
  have HZ0 := Lib.hid hz0
  have HZ1 := Lib.hid hz1
  have HZ2 := Lib.hid hz2
  clear hi0 hz0 hz1 hz2
  rcases hq with rfl | rfl
  all_goals
    go_wp2_with fail
    go_loopw [3, 4] (fun u v wr => ∃ (i : Nat) (xs : List (Ob × Value)) (sl : Value), sl = u ∧ i ≤ L ∧ v = .int .i64 (i : Int) ∧ Hid (MkL W.heap.size W wr l i sl xs)) (fun _ v _ => L - (intOf v).toNat)
    case atStart => exact ⟨0, [], _, rfl, Nat.zero_le _, rfl, h0⟩
    case round =>
      clear h0
      obtain ⟨i, xs, sl, rfl, hiL, rfl, hE⟩ := hrel
      obtain ⟨wo, rfl⟩ : ∃ wo : World, wo = wr := ⟨_, rfl⟩
      have hbel := hE.out.bel
      have hB := HM.out.below hbel
      have d3 : wo.cell? ⟨w.heap.size, 3, none⟩ = some (.slice A L c) := by rw [cell_of_row _ _ _ _ _ _ hB.2.1]; rfl
      have hWw := HM.out.sz
      have hs1 := hbel.size
      by_cases hlt : i < L
      · have hil : i < l.length := by rw [HL.out]; exact hlt
        obtain ⟨b, o, hAe, hb, hrs⟩ := HA.out (by omega)
        rw [hAe] at d3
        clear hAe
        obtain ⟨cs, hcs, hcell⟩ := hrs.get hil
        have hcs' := hcs.below HS.out hB.1
        have ha0 : b < w.heap.size := HS.out b hb
        obtain ⟨z0, z1, z2, z3, rfl⟩ : ∃ z0 z1 z2 z3, cs = [z0, z1, z2, z3] := by
          generalize l[i] = r at hcs
          cases r with
          | mk k n s l => unfold RawAt at hcs; obtain ⟨A, c, e, _⟩ := hcs; exact ⟨_, _, _, _, e⟩
        have l0 := (hB.1.cell (p := ⟨b, o + i * 4 + 0, none⟩) ha0).trans (hcell 0 z0 rfl)
        have l1 := (hB.1.cell (p := ⟨b, o + i * 4 + 1, none⟩) ha0).trans (hcell 1 z1 rfl)
        have l2 := (hB.1.cell (p := ⟨b, o + i * 4 + 2, none⟩) ha0).trans (hcell 2 z2 rfl)
        have l3 := (hB.1.cell (p := ⟨b, o + i * 4 + 3, none⟩) ha0).trans (hcell 3 z3 rfl)
        rw [Nat.add_zero] at l0
        have call := Lib.hid (HI.out i hil wo [z0, z1, z2, z3] (HS.out.later hB.1.size) hcs' (HT.out.below hB.1))
        have HIL := Lib.hid hil
        clear hcell hcs hcs' hrs hbel
        go_wp2_with fail
        refine call.out.mono ?_
        rintro e w3 ⟨a, p, rfl, hp, hb3, ok⟩
        have own3 := Lib.hid (hE.out.own3 hb3 (.cells (cellsO a p).toArray 31))
        have HSTEP : Hid (∀ v' w4, w4.ownsRow W.heap.size 31 7 v' (i + 1) (flatC xs ++ cellsO a p) → (w3.alloc (.cells (cellsO a p).toArray 31)).grownBy w4 sl.ownBlock → (v'.ownBlock = sl.ownBlock ∨ v'.ownBlock = some (w3.alloc (.cells (cellsO a p).toArray 31)).heap.size) → MkL W.heap.size W w4 l (i + 1) v' (xs ++ [(a, p)])) :=
          fun v' w4 h4 hg hat => hE.out.step rfl hb3 _ HIL.out hp ok h4 hg hat
        have hone : ∀ u ∈ cellsO a p, u.oneCell' = true := by
          have := hp.one
          intro u hu
          rw [Array.all_eq_true_iff_forall_mem] at this
          exact this u (by simpa using hu)
        have hnews : ∀ j u, (cellsO a p)[j]? = some u → (w3.alloc (.cells (cellsO a p).toArray 31)).cell? ((⟨w3.heap.size, 0, none⟩ : Addr).add j) = some u := newsO (cs := (cellsO a p).toArray) rfl
        have hs3 : W.heap.size ≤ (w3.alloc (.cells (cellsO a p).toArray 31)).heap.size := by have := hb3.size; simp; omega
        obtain ⟨x0, x1, x2, x3, x4, x5, ea⟩ := cells7 a p
        rw [ea] at own3 HSTEP hone hnews hs3
        unfold vO
        rw [ea]
        have HONE := Lib.hid hone
        have HNEWS := Lib.hid hnews
        clear l0 l1 l2 l3 d3 hp hb3 ok call ea hone hnews hB hs1 hWw
        go_wp2_with (at_builtin; refine wpList_append_own_at _ rfl (.tmp 56) (.tmp 63) _ rfl W.heap.size 31 i0 _ 7 112 Tryz.underlying29 HI0.out HZ0.out HZ1.out HZ2.out rfl (by omega) sl i (flatC xs) rfl own3.out ⟨w3.heap.size, 0, none⟩ 1 1 [x0, x1, x2, x3, x4, x5, p] rfl rfl HNEWS.out HONE.out (by simp only [maxLen]; omega) (by omega) hs3 ?_; intro v4 w4 hown4 hg4 hnil4 hat4; have hst := Lib.hid (HSTEP.out v4 w4 hown4 hg4 hat4); clear hown4 hg4 hnil4 hat4)
        go_roundw
        case rel => exact ⟨i + 1, _, _, rfl, by omega, by go_num, hst⟩
        case measure => simp [intOf]; omega
      · have hiL2 : i = L := by omega
        have hn : ¬ (i : Int) < L := by omega
        have hbel2 := Lib.hid hB.1
        have hg2 := Lib.hid hB.2.2
        have hnod := hE.out.nodes
        rw [hiL2, ← HL.out, List.take_length] at hnod
        have OK : Hid (OkO (1 + 4 * Rw.cnts l) (Ob.list (fsts xs))) := ⟨hE.out.bd, hnod⟩
        have hlen : (fsts xs).length = i := by simp [fsts, hE.out.len]
        obtain ⟨A', c', hsl, hc', hA'⟩ := hE.out.slice
        have call := Lib.hid (listO (fsts xs) A' c' wo (fun b => W.heap.size ≤ b ∧ b < wo.heap.size) (fun b h => h.2) hc' (by omega) hA')
        clear hE
        subst hsl
        have HL2 := Lib.hid hlen
        clear hlen hc' hA' hnod hB hbel hiL2 hlt
        generalize fsts xs = os at call OK
        go_wp2_with fail
        refine call.out.mono ?_
        rintro e w2 ⟨p, rfl, hp, hb2⟩
        have hs2 := hb2.size
        have hg3 := Lib.hid ((hb2.block (w.heap.size + 1) (by omega)).trans hg2.out)
        have hbw := Lib.hid (hbel2.out.trans (hb2.mono (by omega)))
        clear call hb2 d3
        go_wp2_with (refine storeV (w1 := w2) rfl (.tmp 2) (.tmp 66) rfl (w.heap.size + 1) _ _ rfl rfl hp _ _ hg3.out rfl ?_)
        exact retX (q := 2) rfl rfl hg3.out hp (fun h => by
          rcases h with h | h <;> omega) (fun b hb => .inr (by rcases hb with h | h <;> omega)) (by omega) hbw.out OK.out
end Go.Proofs.YtfnkmgipjemkdaaGreatDoor

/- The maker of objects, for every tree; a slice of trees. -/
namespace Go.Proofs.YtfnkmgipjemkdaaGreatDoor
open Go Go.RowKit
set_option linter.unusedVariables false

theorem RetX.le {w w' : World} {m m' : Nat} {e : Ending} (h : RetX w m e w') (hm : m ≤ m') : RetX w m' e w' := by
  obtain ⟨o, p, h1, h2, h3, h4⟩ := h
  exact ⟨o, p, h1, h2, h3, h4.1, Nat.le_trans h4.2 hm⟩
def partM (l : List Rw) (i : Nat) : Nat := match l[i]? with
  | some r => 4 * r.cnt - 1
  | none => 1
theorem partM_le : ∀ l : List Rw, 1 + partM l 0 + partM l 1 ≤ 4 * (1 + Rw.cnts l) - 1
  | [] => by simp [partM, Rw.cnts]
  | [a] => by
    have := a.cnt_pos
    simp [partM, Rw.cnts]; omega
  | a :: b :: l => by
    have := a.cnt_pos
    have := b.cnt_pos
    simp [partM, Rw.cnts]; omega

theorem objEmpty (cs : List Value) (w : World) (S : Nat → Prop) (h : RawAt w S (.mk 0 0 ⟨#[]⟩ []) cs) (ht : Tab w) : Calls Tryz.prog 10 #[.agg cs.toArray] w (RetX w 1) := by
  unfold RawAt at h
  obtain ⟨A, c, rfl, hk, hn, _⟩ := h
  exact objInt 0 0 ⟨#[]⟩ A 0 c w 1 (Nat.le_refl _) (.inl rfl) hk hn ht

theorem objectO : ∀ (r : Rw) (cs : List Value) (w : World) (S : Nat → Prop), In S w → RawAt w S r cs → r.ok → Tab w → Calls Tryz.prog 10 #[.agg cs.toArray] w (RetX w (4 * r.cnt - 1)) := by
  intro r
  induction r using Rw.ind with
  | h k n s l ih =>
    intro cs w S hS h hok ht
    have h' := h
    unfold RawAt at h
    obtain ⟨A, c, rfl, hk, hn, hc, hcm, hA⟩ := h
    unfold Rw.ok at hok
    obtain ⟨hs, hl, hoks⟩ := hok
    have hcnt : (Rw.mk k n s l).cnt = 1 + Rw.cnts l := by unfold Rw.cnt; rfl
    rw [hcnt]
    have q0 := Int.emod_nonneg k (show (8 : Int) ≠ 0 by decide)
    have q1 := Int.emod_lt_of_pos k (show (0 : Int) < 8 by decide)
    have hq : k % 8 = 0 ∨ k % 8 = 1 ∨ k % 8 = 2 ∨ k % 8 = 3 ∨ k % 8 = 4 ∨ k % 8 = 5 ∨ k % 8 = 6 ∨ k % 8 = 7 := by omega
    have m1 : 1 ≤ 4 * (1 + Rw.cnts l) - 1 := by omega
    have KP : ∀ i w cs, In S w → RawAt w S (partV (.mk k n s l) i) cs → Tab w → Calls Tryz.prog 10 #[.agg cs.toArray] w (RetX w (partM l i)) := by
      intro i w cs hS hr ht
      have e : partV (.mk k n s l) i = l.getD i (.mk 0 0 ⟨#[]⟩ []) := rfl
      rw [e, List.getD_eq_getElem?_getD] at hr
      unfold partM
      by_cases hi : i < l.length
      · rw [List.getElem?_eq_getElem hi] at hr ⊢
        exact ih l[i] (List.getElem_mem hi) cs w S hS hr (Rw.oks_mem hoks _ (List.getElem_mem hi)) ht
      · rw [List.getElem?_eq_none (by omega)] at hr ⊢
        exact objEmpty cs w S hr ht
    rcases hq with hq | hq | hq | hq | hq | hq | hq | hq
    · exact objInt k n s A l.length c w _ m1 (.inl hq) hk hn ht
    · exact objInt k n s A l.length c w _ m1 (.inr hq) hk hn ht
    · exact objRat k n s A l.length c w _ m1 hq hk hn hs ht
    · exact objSym k n s A l.length c w _ m1 hq hk hn
    · exact objText k n s A l.length c w _ m1 hq hk
    · exact (objCons k n s A l.length c w S hS _ (partM l 0) (partM l 1) hq hk ht h' (KP 0) (KP 1)).mono fun _ _ hr => hr.le (partM_le l)
    · exact (objList k n s A c w S hS l hl (.inl hq) hk ht hA hc (fun i hi w cs hS hr ht => ih l[i] (List.getElem_mem hi) cs w S hS hr (Rw.oks_mem hoks _ (List.getElem_mem hi)) ht)).mono fun _ _ hr => hr.le (by omega)
    · exact (objList k n s A c w S hS l hl (.inr hq) hk ht hA hc (fun i hi w cs hS hr ht => ih l[i] (List.getElem_mem hi) cs w S hS hr (Rw.oks_mem hoks _ (List.getElem_mem hi)) ht)).mono fun _ _ hr => hr.le (by omega)

/-- The call returned the objects of some trees. -/
def RetXs (w : World) (l : List Rw) (e : Ending) (w' : World) : Prop := ∃ v xs, e = .returned v ∧ MkL w.heap.size w w' l l.length v xs

set_option maxHeartbeats 8000000 in
set_option maxRecDepth 100000 in
theorem objectsO (l : List Rw) (A : Option Addr) (c : Nat) (w : World) (S : Nat → Prop) (hS : In S w) (hL : l.length ≤ 8) (hc : l.length ≤ c) (ht : Tab w)
    (hA : 0 < l.length → ∃ b o, A = some ⟨b, o, none⟩ ∧ S b ∧ RawsAt w S b o l) (hok : ∀ r ∈ l, r.ok) :
    Calls Tryz.prog 27 #[.slice A l.length c] w (RetXs w l) := by
  have KI : ∀ i (hi : i < l.length), ∀ w cs, In S w → RawAt w S l[i] cs → Tab w → Calls Tryz.prog 10 #[.agg cs.toArray] w (RetX w (4 * l[i].cnt - 1)) :=
    fun i hi w cs hS hr ht => objectO l[i] cs w S hS hr (hok _ (List.getElem_mem hi)) ht
  have HT := Lib.hid ht
  have HS := Lib.hid hS
  have HA := Lib.hid hA
  have HI := Lib.hid KI
  clear ht hS hA KI hok
  obtain ⟨L, hLL⟩ : ∃ L, l.length = L := ⟨_, rfl⟩
  have HQ : Hid (∀ wo v xs, MkL w.heap.size w wo l L v xs → RetXs w l (.returned v) wo) := fun wo v xs h => ⟨v, xs, rfl, by rw [hLL]; exact h⟩
  rw [hLL] at hL hc ⊢
  have HL := Lib.hid hLL
  clear hLL
  have h0 : Hid (MkL w.heap.size w w l 0 (.slice none 0 0) []) := MkL.start w l
  obtain ⟨i0, hi0, hz0, hz1, hz2⟩ := infoO
  have HI0 := Lib.hid hi0
  have HZ0 := Lib.hid hz0
  have HZ1 := Lib.hid hz1
  have HZ2 := Lib.hid hz2
  clear hi0 hz0 hz1 hz2
  go_enter Tryz.func27, Tryz.ntmps27
  go_wp2_with fail
  go_loopw [3, 4] (fun u v wr => ∃ (i : Nat) (xs : List (Ob × Value)) (sl : Value), sl = u ∧ i ≤ L ∧ v = .int .i64 (i : Int) ∧ Hid (MkL w.heap.size w wr l i sl xs)) (fun _ v _ => L - (intOf v).toNat)
  case atStart => exact ⟨0, [], _, rfl, Nat.zero_le _, rfl, h0⟩
  case round =>
    clear h0
    obtain ⟨i, xs, sl, rfl, hiL, rfl, hE⟩ := hrel
    obtain ⟨wo, rfl⟩ : ∃ wo : World, wo = wr := ⟨_, rfl⟩
    have hbel := hE.out.bel
    have hs1 := hbel.size
    by_cases hlt : i < L
    · have hil : i < l.length := by rw [HL.out]; exact hlt
      obtain ⟨b, o, rfl, hb, hrs⟩ := HA.out (by omega)
      obtain ⟨cs, hcs, hcell⟩ := hrs.get hil
      have hcs' := hcs.below HS.out hbel
      have ha0 : b < w.heap.size := HS.out b hb
      obtain ⟨z0, z1, z2, z3, rfl⟩ : ∃ z0 z1 z2 z3, cs = [z0, z1, z2, z3] := by
        generalize l[i] = r at hcs
        cases r with
        | mk k n s l => unfold RawAt at hcs; obtain ⟨A, c, e, _⟩ := hcs; exact ⟨_, _, _, _, e⟩
      have l0 := (hbel.cell (p := ⟨b, o + i * 4 + 0, none⟩) ha0).trans (hcell 0 z0 rfl)
      have l1 := (hbel.cell (p := ⟨b, o + i * 4 + 1, none⟩) ha0).trans (hcell 1 z1 rfl)
      have l2 := (hbel.cell (p := ⟨b, o + i * 4 + 2, none⟩) ha0).trans (hcell 2 z2 rfl)
      have l3 := (hbel.cell (p := ⟨b, o + i * 4 + 3, none⟩) ha0).trans (hcell 3 z3 rfl)
      rw [Nat.add_zero] at l0
      have call := Lib.hid (HI.out i hil wo [z0, z1, z2, z3] (HS.out.later hbel.size) hcs' (HT.out.below hbel))
      have HIL := Lib.hid hil
      clear hcell hcs hcs' hrs hbel
      go_wp2_with fail
      refine call.out.mono ?_
      rintro e w3 ⟨a, p, rfl, hp, hb3, ok⟩
      have own3 := Lib.hid (hE.out.own3 hb3 (.cells (cellsO a p).toArray 31))
      have HSTEP : Hid (∀ v' w4, w4.ownsRow w.heap.size 31 7 v' (i + 1) (flatC xs ++ cellsO a p) → (w3.alloc (.cells (cellsO a p).toArray 31)).grownBy w4 sl.ownBlock → (v'.ownBlock = sl.ownBlock ∨ v'.ownBlock = some (w3.alloc (.cells (cellsO a p).toArray 31)).heap.size) → MkL w.heap.size w w4 l (i + 1) v' (xs ++ [(a, p)])) :=
        fun v' w4 h4 hg hat => hE.out.step rfl hb3 _ HIL.out hp ok h4 hg hat
      have hone : ∀ u ∈ cellsO a p, u.oneCell' = true := by
        have := hp.one
        intro u hu
        rw [Array.all_eq_true_iff_forall_mem] at this
        exact this u (by simpa using hu)
      have hnews : ∀ j u, (cellsO a p)[j]? = some u → (w3.alloc (.cells (cellsO a p).toArray 31)).cell? ((⟨w3.heap.size, 0, none⟩ : Addr).add j) = some u := newsO (cs := (cellsO a p).toArray) rfl
      have hs3 : w.heap.size ≤ (w3.alloc (.cells (cellsO a p).toArray 31)).heap.size := by have := hb3.size; simp; omega
      obtain ⟨x0, x1, x2, x3, x4, x5, ea⟩ := cells7 a p
      rw [ea] at own3 HSTEP hone hnews hs3
      unfold vO
      rw [ea]
      have HONE := Lib.hid hone
      have HNEWS := Lib.hid hnews
      clear l0 l1 l2 l3 hp hb3 ok call ea hone hnews hs1
      go_wp2_with (at_builtin; refine wpList_append_own_at _ rfl (.tmp 11) (.tmp 17) _ rfl w.heap.size 31 i0 _ 7 112 Tryz.underlying29 HI0.out HZ0.out HZ1.out HZ2.out rfl (by omega) sl i (flatC xs) rfl own3.out ⟨w3.heap.size, 0, none⟩ 1 1 [x0, x1, x2, x3, x4, x5, p] rfl rfl HNEWS.out HONE.out (by simp only [maxLen]; omega) (by omega) hs3 ?_; intro v4 w4 hown4 hg4 hnil4 hat4; have hst := Lib.hid (HSTEP.out v4 w4 hown4 hg4 hat4); clear hown4 hg4 hnil4 hat4)
      go_roundw
      case rel => exact ⟨i + 1, _, _, rfl, by omega, by go_num, hst⟩
      case measure => simp [intOf]; omega
    · have hiL2 : i = L := by omega
      have hn : ¬ (i : Int) < L := by omega
      have hr := Lib.hid (HQ.out wo sl xs (hiL2 ▸ hE.out))
      clear hE hbel hiL2 hlt
      go_wp2
      go_ret
      exact hr.out
end Go.Proofs.YtfnkmgipjemkdaaGreatDoor

/- The program's isWellFormed, Valid, where the object is plainly valid. -/
namespace Go.Proofs.YtfnkmgipjemkdaaGreatDoor
open Go Go.RowKit
set_option linter.unusedVariables false

set_option maxHeartbeats 1000000 in
theorem isLetterP (c : Int) (h1 : 97 ≤ c) (h2 : c ≤ 122) (w : World) : Calls Tryz.prog 121 #[.int .u8 c] w fun e w' => e = .returned (.bool true) ∧ w = w' := by
  go_enter Tryz.func121, Tryz.ntmps121
  go_wp2
  go_ret
  exact ⟨rfl, rfl⟩
set_option maxHeartbeats 1000000 in
theorem isNameP (s : ByteArray) (h1 : 1 ≤ s.size) (h2 : s.size ≤ 40) (w : World) : Calls Tryz.prog 104 #[.string s] w fun e w' => e = .returned (.bool true) ∧ w = w' := by
  have h3 : (1 : Int) ≤ (s.size : Int) := by omega
  have h4 : (s.size : Int) ≤ 40 := by omega
  go_enter Tryz.func104, Tryz.ntmps104
  go_wp2
  go_ret
  exact ⟨rfl, rfl⟩
set_option maxHeartbeats 4000000 in
set_option maxRecDepth 100000 in
theorem isPackageP (w : World) : Calls Tryz.prog 103 #[.string (BA lispB)] w fun e w' => e = .returned (.bool true) ∧ w = w' := by
  show Calls _ _ #[.string ⟨#[108, 105, 115, 112]⟩] _ _
  go_enter Tryz.func103, Tryz.ntmps103
  go_wp2_with fail
  refine (isNameP ⟨#[108, 105, 115, 112]⟩ (by decide) (by decide) _).mono ?_
  rintro e w' ⟨rfl, rfl⟩
  go_wp2_with fail
  refine (isLetterP 108 (by decide) (by decide) _).mono ?_
  rintro e w' ⟨rfl, rfl⟩
  go_wp2_with fail
  go_loop [15] (fun v => ∃ i : Nat, i ≤ 4 ∧ v = .int .i64 i) (fun v => 4 - (intOf v).toNat)
  case atStart => exact ⟨0, by omega, rfl⟩
  case round =>
    obtain ⟨i, hi, rfl⟩ := hrel
    have h5 : i = 0 ∨ i = 1 ∨ i = 2 ∨ i = 3 ∨ i = 4 := by omega
    rcases h5 with rfl | rfl | rfl | rfl | rfl
    · go_wp2_with fail
      refine (isLetterP 108 (by decide) (by decide) _).mono ?_
      rintro e w' ⟨rfl, rfl⟩
      go_wp2
      go_round
      case rel => exact ⟨1, by omega, rfl⟩
      case measure => simp [intOf]
    · go_wp2_with fail
      refine (isLetterP 105 (by decide) (by decide) _).mono ?_
      rintro e w' ⟨rfl, rfl⟩
      go_wp2
      go_round
      case rel => exact ⟨2, by omega, rfl⟩
      case measure => simp [intOf]
    · go_wp2_with fail
      refine (isLetterP 115 (by decide) (by decide) _).mono ?_
      rintro e w' ⟨rfl, rfl⟩
      go_wp2
      go_round
      case rel => exact ⟨3, by omega, rfl⟩
      case measure => simp [intOf]
    · go_wp2_with fail
      refine (isLetterP 112 (by decide) (by decide) _).mono ?_
      rintro e w' ⟨rfl, rfl⟩
      go_wp2
      go_round
      case rel => exact ⟨4, by omega, rfl⟩
      case measure => simp [intOf]
    · go_wp2
      go_ret
      exact ⟨rfl, rfl⟩
set_option maxHeartbeats 1000000 in
theorem isShortP (x : Int) (h : x.natAbs < 10 ^ 90) (w : World) : Calls Tryz.prog 119 #[.string (BA (text x))] w fun e w' => e = .returned (.bool true) ∧ w = w' := by
  have hl := text_length (x := x) (k := 90) h
  have hs : (BA (text x)).size ≤ 92 := by rw [BA_size]; exact hl
  have hv : valid (LA (BA (text x))) = true := by rw [LA_BA]; exact valid_text x
  have hd : ((body (LA (BA (text x)))).length : Int) ≤ 100 := by
    unfold body
    rw [hv, LA_BA]
    have := strip_length (text x)
    simp only [if_true]
    omega
  have V : Hid (∀ w, Calls Tryz.prog 124 #[.string (BA (text x))] w fun e w' => e = .returned (.bool true) ∧ w = w') := fun w => by
    have := valid_any (BA (text x)) w (by unfold maxLen; omega)
    rw [hv] at this
    exact this
  have D : Hid (∀ w, Calls Tryz.prog 129 #[.string (BA (text x))] w fun e w' => e = .returned (.int .i64 ((body (LA (BA (text x)))).length : Nat)) ∧ w = w') := fun w => digits_any _ w (by omega)
  clear h hl hv
  generalize BA (text x) = s at hs hd V D ⊢
  generalize (body (LA s)).length = n at hd D
  go_enter Tryz.func119, Tryz.ntmps119
  go_wp2_with fail
  refine (V.out _).mono ?_
  rintro e w' ⟨rfl, rfl⟩
  go_wp2_with fail
  refine (D.out _).mono ?_
  rintro e w' ⟨rfl, rfl⟩
  go_wp2
  go_ret
  exact ⟨rfl, rfl⟩
set_option maxHeartbeats 1000000 in
theorem isFractionP (x : Int) (h : x.natAbs < 10 ^ 90) (w : World) : Calls Tryz.prog 102 #[.string (BA (text x)), .string ⟨#[49]⟩] w fun e w' => e = .returned (.bool true) ∧ w = w' := by
  have C1 := fun w => isShortP x h w
  have C2 : ∀ w, Calls Tryz.prog 119 #[.string ⟨#[49]⟩] w fun e w' => e = .returned (.bool true) ∧ w = w' := fun w => isShortP 1 (by decide) w
  replace C1 := Lib.hid C1
  replace C2 := Lib.hid C2
  clear h
  generalize BA (text x) = s at C1 ⊢
  go_enter Tryz.func102, Tryz.ntmps102
  go_wp2_with fail
  refine (C1.out _).mono ?_
  rintro e w' ⟨rfl, rfl⟩
  go_wp2_with fail
  refine (C2.out _).mono ?_
  rintro e w' ⟨rfl, rfl⟩
  go_wp2
  go_ret
  exact ⟨rfl, rfl⟩
end Go.Proofs.YtfnkmgipjemkdaaGreatDoor

/- The program's hasOnly, isWellFormed, Valid, where the object is plainly valid. -/
namespace Go.Proofs.YtfnkmgipjemkdaaGreatDoor
open Go Go.RowKit
set_option linter.unusedVariables false

theorem eqS_self (s1 s2 s3 s4 s5 : ByteArray) : eqS s1 s2 s3 s4 s5 s1 s2 s3 s4 s5 = true := by unfold eqS; simp
set_option maxHeartbeats 4000000 in
set_option maxRecDepth 100000 in
theorem hasOnlyP (b k : Nat) (w : World) (x : Int) (s1 s2 s3 s4 s5 : ByteArray) (A : Option Addr) (n c : Nat)
    (l0 : w.cell? ⟨b, k, none⟩ = some (.int .i64 x)) (l1 : w.cell? ⟨b, k + 1, none⟩ = some (.string s1)) (l2 : w.cell? ⟨b, k + 2, none⟩ = some (.string s2)) (l3 : w.cell? ⟨b, k + 3, none⟩ = some (.string s3)) (l4 : w.cell? ⟨b, k + 4, none⟩ = some (.string s4)) (l5 : w.cell? ⟨b, k + 5, none⟩ = some (.string s5)) (l6 : w.cell? ⟨b, k + 6, none⟩ = some (.slice A n c)) :
    Calls Tryz.prog 101 #[.pointer (some ⟨b, k, none⟩), .agg #[.int .i64 0, .string s1, .string s2, .string s3, .string s4, .string s5, .slice A n c]] w (RetB w true) := by
  have hlt := World.block_lt_of_cell? w _ l0
  have hne : ¬ b = w.heap.size := by have : b < w.heap.size := hlt; omega
  have hb0 := Below.alloc (Below.refl w.heap.size w) (Nat.le_refl _) (.cells #[.int .i64 x, .string s1, .string s2, .string s3, .string s4, .string s5, .slice A n c] 31)
  have hg0 := heap_alloc_new w (.cells #[.int .i64 x, .string s1, .string s2, .string s3, .string s4, .string s5, .slice A n c] 31)
  go_enter Tryz.func101, Tryz.ntmps101
  go_wp2_with fail
  have k0 := (hb0.cell (p := ⟨b, k, none⟩) hlt).trans l0
  have k1 := (hb0.cell (p := ⟨b, k + 1, none⟩) hlt).trans l1
  have k2 := (hb0.cell (p := ⟨b, k + 2, none⟩) hlt).trans l2
  have k3 := (hb0.cell (p := ⟨b, k + 3, none⟩) hlt).trans l3
  have k4 := (hb0.cell (p := ⟨b, k + 4, none⟩) hlt).trans l4
  have k5 := (hb0.cell (p := ⟨b, k + 5, none⟩) hlt).trans l5
  have k6 := (hb0.cell (p := ⟨b, k + 6, none⟩) hlt).trans l6
  generalize w.alloc (.cells #[.int .i64 x, .string s1, .string s2, .string s3, .string s4, .string s5, .slice A n c] 31) = W at hb0 hg0 k0 k1 k2 k3 k4 k5 k6 ⊢
  obtain ⟨⟨g0, g1, g2, g3, g4, g5, g6⟩, _⟩ := row7 hg0
  have C : Hid (∀ m, Calls Tryz.prog 114 #[.pointer (some ⟨b, k, none⟩), .pointer (some ⟨w.heap.size, 0, none⟩)] (W.drewN m) (QuietV (W.drewN m) (.bool true))) := fun m => by
    have h := sameRaw b k w.heap.size 0 (W.drewN m) x x s1 s2 s3 s4 s5 s1 s2 s3 s4 s5 k0 k1 k2 k3 k4 k5 g0 g1 g2 g3 g4 g5
    rw [eqS_self] at h
    simpa using h
  have HB := Lib.hid hb0
  clear l0 l1 l2 l3 l4 l5 l6 k0 k1 k2 k3 k4 k5 g0 g1 g2 g3 g4 g5 hg0 hb0
  go_quiet ((go_at_call 114; exact Calls.quiet_of (C.out _)))
  go_wp2
  go_ret
  exact ⟨rfl, HB.out.trans (⟨rfl, rfl, rfl, Nat.le_refl _, fun _ _ => rfl⟩ : Below w.heap.size W (W.drewN nq))⟩

def Ob.wf : Ob → Prop
  | .num q => q.den = 1 ∧ q.num.natAbs < 10 ^ 90
  | .str s => s.length ≤ 200
  | .sym p n => p = lispB ∧ 1 ≤ n.length ∧ n.length ≤ 40
  | .cons a d => a.wf ∧ d.wf

set_option maxHeartbeats 4000000 in
set_option maxRecDepth 100000 in
theorem wellP : ∀ (a : Ob) (b k : Nat) (p : Value) (w : World) (S : Nat → Prop), a.wf → In S w → At w S a b k p →
    Calls Tryz.prog 77 #[.pointer (some ⟨b, k, none⟩)] w (RetB w true) := by
  intro a
  induction a with
  | num q =>
    intro b k p w S hwf hS h
    obtain ⟨x0, x1, x2, x3, x4, x5, e, l0, l1, l2, l3, l4, l5, l6⟩ := h.cells
    obtain rfl := h.2.2.flat rfl
    have hlt : b < w.heap.size := hS b h.1.1
    rw [cellsO_f] at e
    simp only [List.cons.injEq, and_true] at e
    obtain ⟨rfl, rfl, rfl, rfl, rfl, rfl⟩ := e
    have hF : Hid (∀ w, Calls Tryz.prog 102 #[.string (nt q), .string (dt q)] w fun e w' => e = .returned (.bool true) ∧ w = w') := fun w => by
      have h := isFractionP q.num hwf.2 w
      have e : dt q = ⟨#[49]⟩ := by unfold dt; rw [hwf.1]; decide
      rw [e]; exact h
    have HO : Hid (∀ wd, Below w.heap.size w wd → Calls Tryz.prog 101 #[.pointer (some ⟨b, k, none⟩), .agg #[.int .i64 0, .string (nt q), .string (dt q), .string ⟨#[]⟩, .string ⟨#[]⟩, .string ⟨#[]⟩, .slice none 0 0]] wd (RetB wd true)) := fun wd hb =>
      hasOnlyP b k wd 1 (nt q) (dt q) ⟨#[]⟩ ⟨#[]⟩ ⟨#[]⟩ none 0 0 ((hb.cell (p := ⟨b, k, none⟩) hlt).trans l0) ((hb.cell (p := ⟨b, k + 1, none⟩) hlt).trans l1) ((hb.cell (p := ⟨b, k + 2, none⟩) hlt).trans l2) ((hb.cell (p := ⟨b, k + 3, none⟩) hlt).trans l3) ((hb.cell (p := ⟨b, k + 4, none⟩) hlt).trans l4) ((hb.cell (p := ⟨b, k + 5, none⟩) hlt).trans l5) ((hb.cell (p := ⟨b, k + 6, none⟩) hlt).trans l6)
    have HC : Hid (∀ wd, Below w.heap.size w wd → wd.cell? ⟨b, k + 1, none⟩ = some (.string (nt q)) ∧ wd.cell? ⟨b, k + 2, none⟩ = some (.string (dt q))) := fun wd hb => ⟨(hb.cell (p := ⟨b, k + 1, none⟩) hlt).trans l1, (hb.cell (p := ⟨b, k + 2, none⟩) hlt).trans l2⟩
    have hB0 : Below w.heap.size w w.drew := (Below.refl _ _).drew
    change w.cell? ⟨b, k, none⟩ = some (.int .i64 1) at l0
    change w.cell? ⟨b, k + 1, none⟩ = some (.string (nt q)) at l1
    change w.cell? ⟨b, k + 2, none⟩ = some (.string (dt q)) at l2
    clear l3 l4 l5 l6 h hwf
    generalize nt q = nq at *
    generalize dt q = dq at *
    go_enter Tryz.func77, Tryz.ntmps77
    go_wp2_with fail
    go_region_held3 (fun W' => W'.cell? ⟨b, k + 1, none⟩ = some (.string nq) ∧ W'.cell? ⟨b, k + 2, none⟩ = some (.string dq)) (go_keep)
      (first
        | (go_at_call 101; refine (HO.out _ ‹Below w.heap.size w _›).mono ?_; rintro e w3 ⟨rfl, hb3⟩; have hB3 := chain2 ‹Below w.heap.size w _› hb3 (Nat.le_refl _); obtain ⟨l1, l2⟩ := HC.out _ hB3; clear hb3)
        | (go_at_call 102; refine (hF.out _).mono ?_; rintro e w4 ⟨rfl, rfl⟩))
    all_goals go_wp2
    all_goals go_ret
    all_goals exact ⟨rfl, ‹Below w.heap.size w _›⟩
  | str s =>
    intro b k p w S hwf hS h
    obtain ⟨x0, x1, x2, x3, x4, x5, e, l0, l1, l2, l3, l4, l5, l6⟩ := h.cells
    obtain rfl := h.2.2.flat rfl
    have hlt : b < w.heap.size := hS b h.1.1
    rw [cellsO_f] at e
    simp only [List.cons.injEq, and_true] at e
    obtain ⟨rfl, rfl, rfl, rfl, rfl, rfl⟩ := e
    have hsz : ((BA s).size : Int) ≤ 200 := by rw [BA_size]; have : s.length ≤ 200 := hwf; omega
    change w.cell? ⟨b, k, none⟩ = some (.int .i64 3) at l0
    change w.cell? ⟨b, k + 5, none⟩ = some (.string (BA s)) at l5
    have HO := Lib.hid (hasOnlyP b k w 3 ⟨#[]⟩ ⟨#[]⟩ ⟨#[]⟩ ⟨#[]⟩ (BA s) none 0 0 l0 l1 l2 l3 l4 l5 l6)
    have HC : Hid (∀ wd, Below w.heap.size w wd → wd.cell? ⟨b, k + 5, none⟩ = some (.string (BA s))) := fun wd hb => (hb.cell (p := ⟨b, k + 5, none⟩) hlt).trans l5
    clear l1 l2 l3 l4 l6 h hwf
    generalize BA s = t at *
    go_enter Tryz.func77, Tryz.ntmps77
    go_wp2_with fail
    refine HO.out.mono ?_
    rintro e w1 ⟨rfl, hb1⟩
    have j5 := HC.out _ hb1
    have HB := Lib.hid hb1
    clear hb1 l5 l0
    go_wp2
    go_ret
    exact ⟨rfl, HB.out⟩
  | sym s n =>
    intro b k p w S hwf hS h
    obtain ⟨x0, x1, x2, x3, x4, x5, e, l0, l1, l2, l3, l4, l5, l6⟩ := h.cells
    obtain rfl := h.2.2.flat rfl
    have hlt : b < w.heap.size := hS b h.1.1
    rw [cellsO_f] at e
    simp only [List.cons.injEq, and_true] at e
    obtain ⟨rfl, rfl, rfl, rfl, rfl, rfl⟩ := e
    obtain ⟨rfl, hn1, hn2⟩ := hwf
    have hN := fun w => isNameP (BA n) (by rw [BA_size]; exact hn1) (by rw [BA_size]; exact hn2) w
    replace hN := Lib.hid hN
    have hP := Lib.hid isPackageP
    change w.cell? ⟨b, k, none⟩ = some (.int .i64 2) at l0
    change w.cell? ⟨b, k + 3, none⟩ = some (.string (BA lispB)) at l3
    change w.cell? ⟨b, k + 4, none⟩ = some (.string (BA n)) at l4
    have HO := Lib.hid (hasOnlyP b k w 2 ⟨#[]⟩ ⟨#[]⟩ (BA lispB) (BA n) ⟨#[]⟩ none 0 0 l0 l1 l2 l3 l4 l5 l6)
    have HC : Hid (∀ wd, Below w.heap.size w wd → wd.cell? ⟨b, k + 3, none⟩ = some (.string (BA lispB)) ∧ wd.cell? ⟨b, k + 4, none⟩ = some (.string (BA n))) := fun wd hb => ⟨(hb.cell (p := ⟨b, k + 3, none⟩) hlt).trans l3, (hb.cell (p := ⟨b, k + 4, none⟩) hlt).trans l4⟩
    clear l1 l2 l5 l6 h hn1 hn2
    generalize BA lispB = t at *
    generalize BA n = t' at *
    go_enter Tryz.func77, Tryz.ntmps77
    go_wp2_with fail
    refine HO.out.mono ?_
    rintro e w1 ⟨rfl, hb1⟩
    obtain ⟨j3, j4⟩ := HC.out _ hb1
    have HB := Lib.hid hb1
    clear hb1 l0 l3 l4
    go_wp2_with fail
    refine (hP.out _).mono ?_
    rintro e w2 ⟨rfl, rfl⟩
    go_wp2_with fail
    refine (hN.out _).mono ?_
    rintro e w2 ⟨rfl, rfl⟩
    go_wp2
    go_ret
    exact ⟨rfl, HB.out⟩
  | cons a d iha ihd =>
    intro b k p w S hwf hS h
    obtain ⟨x0, x1, x2, x3, x4, x5, e, l0, l1, l2, l3, l4, l5, l6⟩ := h.cells
    obtain ⟨b', o', c', pa, pd, rfl, hc, hA, hD⟩ := h.2.2.parts
    have hlt : b < w.heap.size := hS b h.1.1
    rw [cellsO_f] at e
    simp only [List.cons.injEq, and_true] at e
    obtain ⟨rfl, rfl, rfl, rfl, rfl, rfl⟩ := e
    have CA : Hid (∀ wd, Below w.heap.size w wd → Calls Tryz.prog 77 #[.pointer (some ⟨b', o', none⟩)] wd (RetB wd true)) := fun wd hb => iha b' o' pa wd S hwf.1 (hS.later hb.size) (hA.below hS hb)
    have CD : Hid (∀ wd, Below w.heap.size w wd → Calls Tryz.prog 77 #[.pointer (some ⟨b', o' + 7, none⟩)] wd (RetB wd true)) := fun wd hb => ihd b' (o' + 7) pd wd S hwf.2 (hS.later hb.size) (hD.below hS hb)
    change w.cell? ⟨b, k, none⟩ = some (.int .i64 4) at l0
    have HO := Lib.hid (hasOnlyP b k w 4 ⟨#[]⟩ ⟨#[]⟩ ⟨#[]⟩ ⟨#[]⟩ ⟨#[]⟩ (some ⟨b', o', none⟩) 2 c' l0 l1 l2 l3 l4 l5 l6)
    have HC : Hid (∀ wd, Below w.heap.size w wd → wd.cell? ⟨b, k + 6, none⟩ = some (.slice (some ⟨b', o', none⟩) 2 c')) := fun wd hb => (hb.cell (p := ⟨b, k + 6, none⟩) hlt).trans l6
    clear l1 l2 l3 l4 l5 h hwf iha ihd hA hD
    go_enter Tryz.func77, Tryz.ntmps77
    go_wp2_with fail
    refine HO.out.mono ?_
    rintro e w1 ⟨rfl, hb1⟩
    have j6 := HC.out _ hb1
    have HB := Lib.hid hb1
    clear hb1 l0 l6
    go_wp2_with fail
    refine (CA.out _ HB.out).mono ?_
    rintro e w2 ⟨rfl, hb2⟩
    have HB2 := Lib.hid (chain2 HB.out hb2 (Nat.le_refl _))
    have j7 := HC.out _ HB2.out
    clear hb2 j6
    go_wp2_with fail
    refine (CD.out _ HB2.out).mono ?_
    rintro e w3 ⟨rfl, hb3⟩
    have HB3 := Lib.hid (chain2 HB2.out hb3 (Nat.le_refl _))
    clear hb3 j7
    go_wp2
    go_ret
    exact ⟨rfl, HB3.out⟩

set_option maxHeartbeats 1000000 in
set_option maxRecDepth 100000 in
theorem validP (a : Ob) (p : Value) (w : World) (S : Nat → Prop) (hwf : a.wf) (hn : a.nodes ≤ 3000) (hS : In S w) (h : Pair w S a p) :
    Calls Tryz.prog 50 #[vO a p] w (RetB w true) := by
  obtain ⟨x0, x1, x2, x3, x4, x5, e⟩ := cells7 a p
  have hb : Below w.heap.size w (w.alloc (.cells #[x0, x1, x2, x3, x4, x5, p] 31)) := Below.alloc (Below.refl _ _) (Nat.le_refl _) _
  have hg := heap_alloc_new w (.cells #[x0, x1, x2, x3, x4, x5, p] 31)
  have hA : At (w.alloc (.cells #[x0, x1, x2, x3, x4, x5, p] 31)) (fun b => S b ∨ b = w.heap.size) a w.heap.size 0 p := by
    refine ⟨⟨.inr rfl, _, _, hg⟩, fun j u hj => ?_, (h.below hS hb).more fun _ h => .inl h⟩
    rw [Nat.zero_add, cell_of_row _ _ _ _ _ _ hg, ← hj, e]
    simp
  have hS' : In (fun b => S b ∨ b = w.heap.size) (w.alloc (.cells #[x0, x1, x2, x3, x4, x5, p] 31)) := fun b hb => by
    rcases hb with hb | rfl
    · have := hS b hb; simp; omega
    · simp
  have N := nodesP a p _ S (hS.later hb.size) (h.below hS hb) hn
  unfold vO at N
  rw [e] at N
  replace N := Lib.hid N
  have V : Hid (∀ wd, Below (w.heap.size + 1) (w.alloc (.cells #[x0, x1, x2, x3, x4, x5, p] 31)) wd → Calls Tryz.prog 77 #[.pointer (some ⟨w.heap.size, 0, none⟩)] wd (RetB wd true)) := fun wd hb' =>
    wellP a w.heap.size 0 p wd _ hwf (hS'.later hb'.size) (hA.below (B := w.heap.size + 1) (fun b hb => by have := hS' b hb; simpa using this) hb')
  unfold vO
  rw [e]
  have hz : (w.alloc (.cells #[x0, x1, x2, x3, x4, x5, p] 31)).heap.size = w.heap.size + 1 := by simp
  have hnn : (a.nodes : Int) ≤ 3000 := by omega
  clear e hA hS' h hS hg hwf
  go_enter Tryz.func50, Tryz.ntmps50
  go_wp2_with fail
  refine N.out.mono ?_
  rintro e w1 ⟨rfl, hb1⟩
  rw [hz] at hb1
  have V1 := Lib.hid (V.out _ hb1)
  have HB := Lib.hid (hb.trans (hb1.mono (by omega)))
  clear hb1 hb V N hz
  go_wp2_with fail
  refine V1.out.mono ?_
  rintro e w2 ⟨rfl, hb2⟩
  have HB2 := Lib.hid (HB.out.trans (hb2.mono HB.out.size))
  clear hb2
  go_wp2
  go_ret
  exact ⟨rfl, HB2.out⟩
end Go.Proofs.YtfnkmgipjemkdaaGreatDoor

/- The sanity check of the statements of layer 2. -/
namespace Go.Proofs.YtfnkmgipjemkdaaGreatDoor
open Go Go.RowKit
set_option linter.unusedVariables false

def oneA : Ob := Ob.list [.num 1, .str [97]]
theorem divInt_q (a b : UInt8) (m n : Int) (ha : val [a] = m) (hb : val [b] = n) : quo (LA ⟨#[a]⟩) (LA ⟨#[b]⟩) = Rat.divInt m n := by
  unfold quo
  rw [show LA ⟨#[a]⟩ = [a] from rfl, show LA ⟨#[b]⟩ = [b] from rfl, ha, hb]
theorem half_third : quo (LA ⟨#[49]⟩) (LA ⟨#[50]⟩) + quo (LA ⟨#[49]⟩) (LA ⟨#[51]⟩) = quo (LA ⟨#[53]⟩) (LA ⟨#[54]⟩) := by
  rw [divInt_q 49 50 1 2 (by decide) (by decide), divInt_q 49 51 1 3 (by decide) (by decide), divInt_q 53 54 5 6 (by decide) (by decide), Rat.divInt_add_divInt _ _ (by decide) (by decide)]
  rfl
theorem bd_lit (a b : UInt8) : Bd 10 (quo (LA ⟨#[a]⟩) (LA ⟨#[b]⟩)) := (bd_quo (k := 1) (Nat.le_refl _) (Nat.le_refl _) (by decide)).more (by decide)
theorem flat_pair {w w' : World} {S S' : Nat → Prop} {o : Ob} {p : Value} (h : Pair w S o p) (ho : o.isCons = false) : Pair w' S' o p := by
  cases o with
  | cons a d => simp [Ob.isCons] at ho
  | _ => exact h

theorem int1P (w : World) (ht : Tab w) : Calls Tryz.prog 13 #[.int .i64 1] w (RetN w 1) :=
  (intP 1 w (fun _ => False) (i64_small (by omega)) ht).mono fun _ _ h => by
    have := h.num
    simpa using this
/-- A text as a value. -/
def vT (s : ByteArray) : Value := .agg #[.int .i64 3, .string ⟨#[]⟩, .string ⟨#[]⟩, .string ⟨#[]⟩, .string ⟨#[]⟩, .string s, .slice none 0 0]
theorem textPN (s : ByteArray) (w : World) : Calls Tryz.prog 16 #[.string s] w fun e w' => e = .returned (vT s) ∧ Below w.heap.size w w' :=
  (textP s w (fun _ => False)).mono fun e w' ⟨p, he, hp, hb⟩ => by
    have hpe : p = .slice none 0 0 := hp
    subst hpe
    refine ⟨he.trans ?_, hb⟩
    show Ending.returned (.agg #[.int .i64 3, .string ⟨#[]⟩, .string ⟨#[]⟩, .string ⟨#[]⟩, .string ⟨#[]⟩, .string (BA (LA s)), .slice none 0 0]) = _
    rw [BA_LA]; rfl

set_option maxHeartbeats 8000000 in
set_option maxRecDepth 100000 in
theorem first2_any (w : World) (ht : Tab w) : Calls Tryz.prog 8 #[] w (RetB w true) := by
  have HT := Lib.hid ht
  clear ht
  go_enter Tryz.func8, Tryz.ntmps8
  go_wp2_with fail
  refine (int1P _ HT.out).mono ?_
  rintro e w1 ⟨rfl, hb1⟩
  go_wp2_with fail
  refine (textPN ⟨#[97]⟩ _).mono ?_
  rintro e w2 ⟨rfl, hb2⟩
  have HB2 := Lib.hid (chain2 hb1 hb2 (Nat.le_refl _))
  clear hb1 hb2
  have hrow := Lib.hid (heap_alloc_new w2 (.cells #[.int .i64 1, .string (nt 1), .string (dt 1), .string ⟨#[]⟩, .string ⟨#[]⟩, .string ⟨#[]⟩, .slice none 0 0, .int .i64 3, .string ⟨#[]⟩, .string ⟨#[]⟩, .string ⟨#[]⟩, .string ⟨#[]⟩, .string ⟨#[97]⟩, .slice none 0 0] 31))
  have hbr := Lib.hid (Below.alloc HB2.out HB2.out.size (.cells #[.int .i64 1, .string (nt 1), .string (dt 1), .string ⟨#[]⟩, .string ⟨#[]⟩, .string ⟨#[]⟩, .slice none 0 0, .int .i64 3, .string ⟨#[]⟩, .string ⟨#[]⟩, .string ⟨#[]⟩, .string ⟨#[]⟩, .string ⟨#[97]⟩, .slice none 0 0] 31))
  have hsz := Lib.hid (show (w2.alloc (.cells #[.int .i64 1, .string (nt 1), .string (dt 1), .string ⟨#[]⟩, .string ⟨#[]⟩, .string ⟨#[]⟩, .slice none 0 0, .int .i64 3, .string ⟨#[]⟩, .string ⟨#[]⟩, .string ⟨#[]⟩, .string ⟨#[]⟩, .string ⟨#[97]⟩, .slice none 0 0] 31)).heap.size = w2.heap.size + 1 by simp)
  unfold vQ vT
  go_wp2_with fail
  generalize w2.alloc (.cells #[.int .i64 1, .string (nt 1), .string (dt 1), .string ⟨#[]⟩, .string ⟨#[]⟩, .string ⟨#[]⟩, .slice none 0 0, .int .i64 3, .string ⟨#[]⟩, .string ⟨#[]⟩, .string ⟨#[]⟩, .string ⟨#[]⟩, .string ⟨#[97]⟩, .slice none 0 0] 31) = W at hrow hbr hsz ⊢
  have hobs : ObsAt W (fun b => b = w2.heap.size) w2.heap.size 0 [.num 1, .str [97]] := by
    unfold ObsAt
    refine ⟨⟨.slice none 0 0, rfl, fun j u hj => ?_⟩, ?_⟩
    · rw [Nat.zero_add, cell_of_row _ _ _ _ _ _ hrow.out]
      have : j < 7 := by
        rcases Nat.lt_or_ge j 7 with h | h
        · exact h
        · rw [List.getElem?_eq_none (by rw [cellsO_length]; exact h)] at hj; cases hj
      match j, this with
      | 0, _ => exact hj
      | 1, _ => exact hj
      | 2, _ => exact hj
      | 3, _ => exact hj
      | 4, _ => exact hj
      | 5, _ => exact hj
      | 6, _ => exact hj
    · unfold ObsAt
      refine ⟨⟨.slice none 0 0, rfl, fun j u hj => ?_⟩, by unfold ObsAt; trivial⟩
      rw [cell_of_row _ _ _ _ _ _ hrow.out]
      have : j < 7 := by
        rcases Nat.lt_or_ge j 7 with h | h
        · exact h
        · rw [List.getElem?_eq_none (by rw [cellsO_length]; exact h)] at hj; cases hj
      match j, this with
      | 0, _ => exact hj
      | 1, _ => exact hj
      | 2, _ => exact hj
      | 3, _ => exact hj
      | 4, _ => exact hj
      | 5, _ => exact hj
      | 6, _ => exact hj
  refine (listP [.num 1, .str [97]] (some ⟨w2.heap.size, 0, none⟩) 2 W (fun b => b = w2.heap.size) (fun b hb => by have := hsz.out; subst hb; omega) (Nat.le_refl _) (by decide) (fun _ => ⟨_, 0, rfl, rfl, hobs⟩)).mono ?_
  rintro e w3 ⟨p, rfl, hp, hb3⟩
  have HB3 := Lib.hid (chain2 hbr.out hb3 (Nat.le_refl _))
  have hIn : In (Upto W w3 (fun b => b = w2.heap.size)) w3 := In.upto (fun b hb => by have := hsz.out; subst hb; omega) hb3.size
  have HP := Lib.hid hp
  have HI := Lib.hid hIn
  clear hobs hb3 hp hIn hrow hbr HB2 hsz
  generalize Upto W w3 (fun b => b = w2.heap.size) = S at HP HI
  have hnew := heap_alloc_new w3 (Obj.cells #[Value.int IntKind.i64 0, Value.string { data := #[] }, Value.string { data := #[] }, Value.string { data := #[] }, Value.string { data := #[] }, Value.string { data := #[] }, Value.slice none 0 0] 31)
  have hg4 := setRow_heap (w3.alloc (Obj.cells #[Value.int IntKind.i64 0, Value.string { data := #[] }, Value.string { data := #[] }, Value.string { data := #[] }, Value.string { data := #[] }, Value.string { data := #[] }, Value.slice none 0 0] 31)) w3.heap.size _ (cellsO (Ob.list [.num 1, .str [97]]) p).toArray _ _ hnew
  have hb4 := Lib.hid (below_setRowO (Below.alloc (Below.refl w3.heap.size w3) (Nat.le_refl _) (Obj.cells #[Value.int IntKind.i64 0, Value.string { data := #[] }, Value.string { data := #[] }, Value.string { data := #[] }, Value.string { data := #[] }, Value.string { data := #[] }, Value.slice none 0 0] 31)) (g := w3.heap.size) (Nat.le_refl _) (cellsO (Ob.list [.num 1, .str [97]]) p).toArray)
  have hs4 := Lib.hid (show ((w3.alloc (Obj.cells #[Value.int IntKind.i64 0, Value.string { data := #[] }, Value.string { data := #[] }, Value.string { data := #[] }, Value.string { data := #[] }, Value.string { data := #[] }, Value.slice none 0 0] 31)).setRow w3.heap.size (cellsO (Ob.list [.num 1, .str [97]]) p).toArray).heap.size = w3.heap.size + 1 by rw [size_setRow]; simp)
  obtain ⟨⟨k0, k1, k2, k3, k4, k5, k6⟩, _⟩ := row7 (a0 := .int .i64 4) (a1 := .string ⟨#[]⟩) (a2 := .string ⟨#[]⟩) (a3 := .string ⟨#[]⟩) (a4 := .string ⟨#[]⟩) (a5 := .string ⟨#[]⟩) (a6 := p) hg4
  have HG4 := Lib.hid hg4
  clear hg4
  go_wp2_with (refine storeV (w1 := w3) rfl (.tmp 1) (.tmp 7) rfl w3.heap.size (Ob.list [.num 1, .str [97]]) p rfl rfl HP.out _ _ hnew rfl ?_)
  clear hnew k0 k1 k2 k3 k4 k5 k6
  generalize (w3.alloc (Obj.cells #[Value.int IntKind.i64 0, Value.string { data := #[] }, Value.string { data := #[] }, Value.string { data := #[] }, Value.string { data := #[] }, Value.string { data := #[] }, Value.slice none 0 0] 31)).setRow w3.heap.size (cellsO (Ob.list [.num 1, .str [97]]) p).toArray = W4 at hb4 hs4 HG4 ⊢
  have HC : Hid (∀ wd, Below W4.heap.size W4 wd → wd.cell? ⟨w3.heap.size, 0, none⟩ = some (.int .i64 4) ∧ wd.cell? ⟨w3.heap.size, 1, none⟩ = some (.string ⟨#[]⟩) ∧ wd.cell? ⟨w3.heap.size, 2, none⟩ = some (.string ⟨#[]⟩) ∧ wd.cell? ⟨w3.heap.size, 3, none⟩ = some (.string ⟨#[]⟩) ∧ wd.cell? ⟨w3.heap.size, 4, none⟩ = some (.string ⟨#[]⟩) ∧ wd.cell? ⟨w3.heap.size, 5, none⟩ = some (.string ⟨#[]⟩) ∧ wd.cell? ⟨w3.heap.size, 6, none⟩ = some p) := fun wd hb =>
    (row7 (a0 := .int .i64 4) (a1 := .string ⟨#[]⟩) (a2 := .string ⟨#[]⟩) (a3 := .string ⟨#[]⟩) (a4 := .string ⟨#[]⟩) (a5 := .string ⟨#[]⟩) (a6 := p) ((hb.block w3.heap.size (by have := hs4.out; omega)).trans HG4.out)).1
  have HBW : Hid (Below w.heap.size w W4) := chain2 HB3.out hb4.out (Nat.le_refl _)
  have HPW : Hid (∀ wd, Below W4.heap.size W4 wd → In S wd ∧ Pair wd S oneA p) := fun wd hb =>
    have hb' : Below w3.heap.size w3 wd := hb4.out.trans (hb.mono (by have := hs4.out; omega))
    ⟨HI.out.later hb'.size, HP.out.below HI.out hb'⟩
  have HTW : Hid (∀ wd, Below W4.heap.size W4 wd → Tab wd) := fun wd hb => HT.out.below (HBW.out.trans (hb.mono HBW.out.size))
  clear HB3 HP HI HG4 hb4 hs4 HT
  have IT : Hid (Calls Tryz.prog 29 #[.agg #[.int .i64 4, .string ⟨#[]⟩, .string ⟨#[]⟩, .string ⟨#[]⟩, .string ⟨#[]⟩, .string ⟨#[]⟩, p]] W4 (fun e w' => ∃ g, e = .returned (.tuple #[.slice (some ⟨g, 0, none⟩) 2 2, .bool true]) ∧ Below W4.heap.size W4 w')) :=
    (itemsP oneA p W4 S (HPW.out _ (Below.refl _ _)).1 (HPW.out _ (Below.refl _ _)).2 (by decide)).mono fun e w' ⟨hb, g, he, _⟩ => ⟨g, he, hb⟩
  have ND : Hid (∀ wd, Below W4.heap.size W4 wd → Calls Tryz.prog 49 #[.agg #[.int .i64 4, .string ⟨#[]⟩, .string ⟨#[]⟩, .string ⟨#[]⟩, .string ⟨#[]⟩, .string ⟨#[]⟩, p]] wd (fun e w' => e = .returned (.int .i64 5) ∧ Below wd.heap.size wd w')) := fun wd hb =>
    nodesP oneA p wd S (HPW.out _ hb).1 (HPW.out _ hb).2 (by decide)
  have VA : Hid (∀ wd, Below W4.heap.size W4 wd → Calls Tryz.prog 50 #[.agg #[.int .i64 4, .string ⟨#[]⟩, .string ⟨#[]⟩, .string ⟨#[]⟩, .string ⟨#[]⟩, .string ⟨#[]⟩, p]] wd (RetB wd true)) := fun wd hb =>
    validP oneA p wd S ⟨⟨rfl, by decide⟩, (show [97].length ≤ 200 by decide), rfl, by decide, by decide⟩ (by decide) (HPW.out _ hb).1 (HPW.out _ hb).2
  have hB0 : Hid (Below W4.heap.size W4 W4) := Below.refl _ _
  refine IT.out.mono ?_
  rintro e w5 ⟨g, rfl, hb5⟩
  obtain ⟨k0, k1, k2, k3, k4, k5, k6⟩ := HC.out _ hb5
  have H5 := Lib.hid hb5
  clear hb5
  go_wp2_with fail
  refine (ND.out _ H5.out).mono ?_
  rintro e w6 ⟨rfl, hb6⟩
  have H6 := Lib.hid (chain2 H5.out hb6 (Nat.le_refl _))
  clear hb6 k0 k1 k2 k3 k4 k5 k6
  obtain ⟨k0, k1, k2, k3, k4, k5, k6⟩ := HC.out _ H6.out
  go_wp2_with fail
  refine (VA.out _ H6.out).mono ?_
  rintro e w7 ⟨rfl, hb7⟩
  have H7 := Lib.hid (chain2 H6.out hb7 (Nat.le_refl _))
  clear hb7 k0 k1 k2 k3 k4 k5 k6
  go_wp2_with fail
  refine (ratN _ _ _ (by decide) (by decide)).mono ?_
  rintro e w8 ⟨rfl, hb8⟩
  have H8 := Lib.hid (chain2 H7.out hb8 (Nat.le_refl _))
  clear hb8
  go_wp2_with fail
  refine (ratN _ _ _ (by decide) (by decide)).mono ?_
  rintro e w9 ⟨rfl, hb9⟩
  have H9 := Lib.hid (chain2 H8.out hb9 (Nat.le_refl _))
  clear hb9
  go_wp2_with fail
  refine (sumP 10 (by decide) (.num (quo (LA ⟨#[49]⟩) (LA ⟨#[50]⟩))) (.num (quo (LA ⟨#[49]⟩) (LA ⟨#[51]⟩))) (.slice none 0 0) (.slice none 0 0) w9 (fun _ => False) rfl rfl (bd_lit 49 50) (bd_lit 49 51) (HTW.out _ H9.out)).mono ?_
  rintro e w10 ⟨rfl, hb10⟩
  have H10 := Lib.hid (chain2 H9.out hb10 (Nat.le_refl _))
  clear hb10
  go_wp2_with fail
  refine (ratN _ _ _ (by decide) (by decide)).mono ?_
  rintro e w11 ⟨rfl, hb11⟩
  have H11 := Lib.hid (chain2 H10.out hb11 (Nat.le_refl _))
  clear hb11
  have EQ : Hid (Calls Tryz.prog 40 #[vQ (quo (LA ⟨#[49]⟩) (LA ⟨#[50]⟩) + quo (LA ⟨#[49]⟩) (LA ⟨#[51]⟩)), vQ (quo (LA ⟨#[53]⟩) (LA ⟨#[54]⟩))] w11 (RetB w11 true)) := by
    have h := equalP 30 (by decide) (.num (quo (LA ⟨#[49]⟩) (LA ⟨#[50]⟩) + quo (LA ⟨#[49]⟩) (LA ⟨#[51]⟩))) (.num (quo (LA ⟨#[53]⟩) (LA ⟨#[54]⟩))) (.slice none 0 0) (.slice none 0 0) w11 (fun _ => False) (fun _ h => h.elim) rfl rfl ((bd_add (bd_lit 49 50) (bd_lit 49 51)).more (by decide)) ((bd_lit 53 54).more (by decide)) (by decide)
    rw [decide_eq_true (by rw [half_third])] at h
    exact h
  go_wp2_with fail
  refine EQ.out.mono ?_
  rintro e w12 ⟨rfl, hb12⟩
  have H12 := Lib.hid (chain2 H11.out hb12 (Nat.le_refl _))
  clear hb12 EQ
  go_wp2_with fail
  refine (textPN ⟨#[98]⟩ _).mono ?_
  rintro e w13 ⟨rfl, hb13⟩
  have H13 := Lib.hid (chain2 H12.out hb13 (Nat.le_refl _))
  clear hb13
  go_wp2_with fail
  refine (tP _ (fun _ => False)).mono ?_
  rintro e w14 ⟨q, rfl, hq, hb14⟩
  have hqe : q = .slice none 0 0 := hq
  subst hqe
  have H14 := Lib.hid (chain2 H13.out hb14 (Nat.le_refl _))
  clear hb14 hq
  go_wp2_with fail
  refine (compareP 10 (by decide) (.str [98]) .t (.slice none 0 0) (.slice none 0 0) w14 (fun _ => False) (fun _ h => h.elim) rfl rfl trivial trivial (by decide)).mono ?_
  rintro e w15 ⟨rfl, hb15⟩
  have H15 := Lib.hid (chain2 H14.out hb15 (Nat.le_refl _))
  clear hb15
  have hcm : ordO (.str [98]) .t = -1 := rfl
  rw [hcm]
  clear hcm
  go_wp2_with fail
  refine (nilP _ (fun _ => False)).mono ?_
  rintro e w16 ⟨q, rfl, hq, hb16⟩
  have H16 := Lib.hid (chain2 H15.out hb16 (Nat.le_refl _))
  clear hb16 hq
  go_wp2_with fail
  refine (isNilP .nil q _).mono ?_
  rintro e w17 ⟨rfl, hb17⟩
  have H17 := Lib.hid (chain2 H16.out hb17 (Nat.le_refl _))
  clear hb17
  have hnl : decide (Ob.nil = Ob.nil) = true := by simp
  rw [hnl]
  clear hnl
  go_wp2
  go_ret
  exact ⟨rfl, HBW.out.trans (H17.out.mono HBW.out.size)⟩
end Go.Proofs.YtfnkmgipjemkdaaGreatDoor
