/- The maker of objects: a cons of two parts. -/
import Derived.Test.YtlocnkobancjmaaGreatDoorE13
import Derived.Test.YtlocnkobancjmaaGreatDoorE16
import Derived.Maps.AppendAt
import Derived.Test.YtlocnkobancjmaaGreatDoorE12
namespace Go.Proofs.YtlocnkobancjmaaGreatDoor
open Go Go.RowKit
set_option linter.unusedVariables false

def flatC (xs : List (Ob × Value)) : List Value := xs.flatMap fun x => cellsO x.1 x.2
theorem flatC_snoc (xs : List (Ob × Value)) (o : Ob) (p : Value) : flatC (xs ++ [(o, p)]) = flatC xs ++ cellsO o p := by simp [flatC]
def fsts (xs : List (Ob × Value)) : List Ob := xs.map (·.1)
theorem list_snoc_nodes : ∀ (l : List Ob) (o : Ob), (Ob.list (l ++ [o])).nodes = (Ob.list l).nodes + 1 + o.nodes
 | [], o => by show 1 + o.nodes + (Ob.list []).nodes = _; show 1 + o.nodes + 1 = 1 + 1 + o.nodes; omega
 | a :: l, o => by
  have := list_snoc_nodes l o
  show 1 + a.nodes + (Ob.list (l ++ [o])).nodes = 1 + a.nodes + (Ob.list l).nodes + 1 + o.nodes
  omega
theorem list_snoc_bd {k : Nat} : ∀ (l : List Ob) (o : Ob), (Ob.list l).bd k → o.bd k → (Ob.list (l ++ [o])).bd k
 | [], o, _, h => ⟨h, nil_ok⟩
 | a :: l, o, h, ho => ⟨h.1, list_snoc_bd l o h.2 ho⟩
theorem list_snoc_tx : ∀ (l : List Ob) (o : Ob), (Ob.list l).tx → o.tx → (Ob.list (l ++ [o])).tx
 | [], o, _, h => ⟨h, (show [110, 105, 108].length ≤ 8 by decide)⟩
 | a :: l, o, h, ho => ⟨h.1, list_snoc_tx l o h.2 ho⟩
theorem cnts_snoc : ∀ {l : List Rw} {i : Nat} (hi : i < l.length), Rw.cnts (l.take (i + 1)) = Rw.cnts (l.take i) + l[i].cnt
 | r :: rs, 0, _ => by simp [Rw.cnts]
 | r :: rs, i + 1, hi => by
  have := cnts_snoc (l := rs) (i := i) (by simpa using hi)
  simp only [List.take_succ_cons, Rw.cnts, List.getElem_cons_succ]
  omega

theorem own_lt {w : World} {base : Nat} {e : TypeId} {size n : Nat} {v : Value} {xs : List Value} (h : w.ownsRow base e size v n xs) : ∀ g, v.ownBlock = some g → base ≤ g ∧ g < w.heap.size := by
 intro g hg
 rcases h.2 with ⟨rfl, _⟩ | ⟨g', cap, cur, rfl, hb, hh, _⟩
 · simp [Value.ownBlock] at hg
 · have e : g' = g := by simpa [Value.ownBlock] using hg
   subst e
   exact ⟨hb, by
    rcases Nat.lt_or_ge g' w.heap.size with h | h
    · exact h
    · rw [Array.getElem?_eq_none h] at hh; cases hh⟩
theorem own_keep {w w' : World} {base : Nat} {e : TypeId} {size n : Nat} {v : Value} {xs : List Value} (h : w.ownsRow base e size v n xs) (hk : ∀ g, v.ownBlock = some g → w'.heap[g]? = w.heap[g]?) : w'.ownsRow base e size v n xs := by
 refine ⟨h.1, ?_⟩
 rcases h.2 with h0 | ⟨g', cap, cur, rfl, hb, hh, h1⟩
 · exact .inl h0
 · exact .inr ⟨g', cap, cur, rfl, hb, (hk g' rfl).trans hh, h1⟩
structure MkL (B : Nat) (W wr : World) (l : List Rw) (i : Nat) (v : Value) (xs : List (Ob × Value)) : Prop where
 len : xs.length = i
 own : wr.ownsRow B 27 7 v i (flatC xs)
 pairs : ∀ x ∈ xs, Pair wr (fun b => B ≤ b ∧ b < wr.heap.size ∧ v.ownBlock ≠ some b) x.1 x.2
 bd : (Ob.list (fsts xs)).bd 10
 nodes : (Ob.list (fsts xs)).nodes ≤ 1 + 4 * Rw.cnts (l.take i)
 bel : Below W.heap.size W wr
 tx : (Ob.list (fsts xs)).tx
theorem MkL.start (W : World) (l : List Rw) : MkL W.heap.size W W l 0 (.slice none 0 0) [] :=
 ⟨rfl, ⟨rfl, .inl ⟨rfl, rfl⟩⟩, fun x hx => by simp at hx, nil_ok, by simp [fsts, Ob.list, Ob.nodes, Ob.nil, Rw.cnts], Below.refl _ _, (show [110, 105, 108].length ≤ 8 by decide)⟩
theorem MkL.own3 {B : Nat} {W wo w3 : World} {l : List Rw} {i : Nat} {v : Value} {xs : List (Ob × Value)} (h : MkL B W wo l i v xs) (hb : Below wo.heap.size wo w3) (x : Obj) : (w3.alloc x).ownsRow B 27 7 v i (flatC xs) :=
 own_keep h.own fun g hg => by
  have := (own_lt h.own g hg).2
  rw [Below.heap_alloc _ _ _ (by have := hb.size; omega)]
  exact hb.block g this
theorem MkL.step {B : Nat} {W wo w3 w4 : World} {l : List Rw} {i : Nat} {v v' : Value} {xs : List (Ob × Value)} (h : MkL B W wo l i v xs) (hBW : B = W.heap.size) (hb : Below wo.heap.size wo w3) (x : Obj) (hi : i < l.length) {o : Ob} {p : Value}
 (hp : Pair w3 (Upto wo w3 NoB) o p) (ok : OkO (4 * l[i].cnt - 1) o) (h4 : w4.ownsRow B 27 7 v' (i + 1) (flatC xs ++ cellsO o p)) (hg : (w3.alloc x).grownBy w4 v.ownBlock) (hat : v'.ownBlock = v.ownBlock ∨ v'.ownBlock = some (w3.alloc x).heap.size) :
 MkL B W w4 l (i + 1) v' (xs ++ [(o, p)]) := by
 have hown := own_lt h.own
 have h34 := hg.size
 have hs3 := hb.size
 have hsW := h.bel.size
 simp only [World.size_alloc] at h34 hat
 have blk : ∀ b, b < w3.heap.size → v.ownBlock ≠ some b → w4.heap[b]? = w3.heap[b]? := fun b hb' hne =>
  (hg.block b (by simp; omega) (fun e => hne e.symm)).trans (Below.heap_alloc _ _ _ hb')
 have hne' : ∀ b, b < w3.heap.size → v.ownBlock ≠ some b → v'.ownBlock ≠ some b := fun b hb' hne e => by
  rcases hat with h0 | h0
  · exact hne (h0.symm.trans e)
  · rw [h0] at e
    have : w3.heap.size + 1 = b := by injection e
    omega
 refine ⟨by simp [h.len], by rw [flatC_snoc]; exact h4, fun y hy => ?_, ?_, ?_, ?_, by rw [fsts, List.map_append]; exact list_snoc_tx _ _ h.tx ok.3⟩
 · rcases List.mem_append.1 hy with hy | hy
   · refine (h.pairs y hy).keep (fun b hb' => ⟨hb'.1, by omega, hne' b (by omega) hb'.2.2⟩) (fun b hb' => ?_)
     rw [blk b (by omega) hb'.2.2, hb.block b hb'.2.1]
   · obtain rfl : y = (o, p) := by simpa using hy
     have hn : ∀ b, Upto wo w3 NoB b → wo.heap.size ≤ b ∧ b < w3.heap.size ∧ v.ownBlock ≠ some b := fun b hb' => by
      rcases hb' with h0 | h0
      · exact h0.elim
      · exact ⟨h0.1, h0.2, fun e => by have := (hown b e).2; omega⟩
     refine hp.keep (fun b hb' => ?_) (fun b hb' => ?_)
     · obtain ⟨h0, h1, h2⟩ := hn b hb'
       exact ⟨by omega, by omega, hne' b h1 h2⟩
     · obtain ⟨h0, h1, h2⟩ := hn b hb'
       exact blk b h1 h2
 · rw [fsts, List.map_append]
   exact list_snoc_bd _ _ h.bd ok.1
 · have h1 := h.nodes
   have h2 := ok.2
   have h3 := Rw.cnt_pos l[i]
   rw [fsts, List.map_append, cnts_snoc hi]
   show (Ob.list (fsts xs ++ [o])).nodes ≤ _
   rw [list_snoc_nodes]
   omega
 · have hb3 := h.bel.trans (hb.mono hsW)
   have hba := Below.alloc hb3 (by omega) x
   exact hba.grown hg hba.size (fun k hk => by have := (hown k hk).1; omega)

theorem obsAt_row {w : World} {S : Nat → Prop} {g : Nat} : ∀ (xs : List (Ob × Value)) (o : Nat), (∀ x ∈ xs, Pair w S x.1 x.2) → (∀ j u, (flatC xs)[j]? = some u → w.cell? ⟨g, o + j, none⟩ = some u) → ObsAt w S g o (fsts xs)
 | [], o, _, _ => by show ObsAt w S g o []; unfold ObsAt; trivial
 | (a, p) :: xs, o, hp, hc => by
  show ObsAt w S g o (a :: fsts xs)
  unfold ObsAt
  refine ⟨⟨p, hp (a, p) (by simp), fun j u hj => hc j u ?_⟩, obsAt_row xs (o + 7) (fun x hx => hp x (by simp [hx])) (fun j u hj => ?_)⟩
  · have hlt : j < (cellsO a p).length := by
     rcases Nat.lt_or_ge j (cellsO a p).length with h | h
     · exact h
     · rw [List.getElem?_eq_none h] at hj; cases hj
    show (cellsO a p ++ flatC xs)[j]? = some u
    rw [List.getElem?_append_left hlt]
    exact hj
  · rw [show o + 7 + j = o + (7 + j) from by omega]
    refine hc (7 + j) u ?_
    show (cellsO a p ++ flatC xs)[7 + j]? = some u
    rw [List.getElem?_append_right (by rw [cellsO_length]; omega), cellsO_length, show 7 + j - 7 = j by omega]
    exact hj
theorem MkL.slice {B : Nat} {W wr : World} {l : List Rw} {i : Nat} {v : Value} {xs : List (Ob × Value)} (h : MkL B W wr l i v xs) :
 ∃ A c, v = .slice A (fsts xs).length c ∧ (fsts xs).length ≤ c ∧ (0 < (fsts xs).length → ∃ b o, A = some ⟨b, o, none⟩ ∧ (B ≤ b ∧ b < wr.heap.size) ∧ ObsAt wr (fun b => B ≤ b ∧ b < wr.heap.size) b o (fsts xs)) := by
 have hl : (fsts xs).length = i := by simp [fsts, h.len]
 have ho := own_lt h.own
 rcases h.own.2 with ⟨rfl, rfl⟩ | ⟨g, cap, cur, rfl, hb, hh, hn, _, hcs, hcur⟩
 · exact ⟨none, 0, by rw [hl], by omega, fun h0 => by omega⟩
 · refine ⟨_, cap, by rw [hl], by omega, fun _ => ⟨g, 0, rfl, ho g rfl, obsAt_row xs 0 (fun x hx => (h.pairs x hx).more fun b hb => ⟨hb.1, hb.2.1⟩) fun j u hj => ?_⟩⟩
   rw [Nat.zero_add, cell_of_row _ _ _ _ _ _ hh]
   rw [← hcur] at hj
   rw [List.getElem?_take] at hj
   split at hj
   · simpa using hj
   · cases hj
theorem infoO : ∃ i, Tryz.prog.info? 27 = some i ∧ i.zero = some zeroO ∧ i.size = 7 ∧ i.bytes = 112 := info_of (P := Tryz.prog) (t := 27) (z := zeroO) (a := 7) (b := 112) (by kernel_rfl)
theorem newsO {w : World} {cs : Array Value} {t : TypeId} {b : Nat} (hb : b = w.heap.size) : ∀ j u, cs.toList[j]? = some u → (w.alloc (.cells cs t)).cell? ((⟨b, 0, none⟩ : Addr).add j) = some u := by
 intro j u hj
 subst hb
 have e : (Addr.add ⟨w.heap.size, 0, none⟩ j) = ⟨w.heap.size, j, none⟩ := by
  unfold Addr.add
  split
  · rename_i h; rw [h]
  · simp
 rw [e, cell_of_row _ _ _ _ _ _ (heap_alloc_new w _)]
 simpa using hj
def partM (l : List Rw) (i : Nat) : Nat := match l[i]? with
 | some r => 4 * r.cnt - 1
 | none => 1
theorem partM_le : ∀ l : List Rw, 1 + partM l 0 + partM l 1 ≤ 4 * (1 + Rw.cnts l) - 1
 | [] => by simp [partM, Rw.cnts]
 | [a] => by
  have := a.cnt_pos
  simp [partM, Rw.cnts]; omega
 | a :: b :: l => by
  have := a.cnt_pos
  have := b.cnt_pos
  simp [partM, Rw.cnts]; omega

end Go.Proofs.YtlocnkobancjmaaGreatDoor
