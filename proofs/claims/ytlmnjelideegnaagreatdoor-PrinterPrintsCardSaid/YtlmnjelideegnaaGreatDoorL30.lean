import Derived.Test.YtlmnjelideegnaaGreatDoorCl
import Derived.Test.YtlmnjelideegnaaGreatDoorL29
namespace Go.Proofs.YtlmnjelideegnaaGreatDoor
open Go Go.RowKit
set_option linter.unusedVariables false
set_option maxHeartbeats 32000000
set_option maxRecDepth 100000
structure ItJ (w wr : World) (S : Nat → Prop) (x : Ob) (p : Value) (i : Nat) (v : Value) (xs : List Value) (R : Option Nat) : Prop where
 bel : Below w.heap.size w wr
 box : wr.heap[w.heap.size]? = some (.cells (cellsO x p).toArray 39 (0, 0))
 pair : Pair wr S x p
 own : wr.ownsRow (w.heap.size + 1) 39 7 v i xs
 cnt : x.cnt i = R
theorem ItJ.below {w wr w' : World} {S : Nat → Prop} {x : Ob} {p : Value} {i : Nat} {v : Value} {xs : List Value} {R : Option Nat} (h : ItJ w wr S x p i v xs R) (hS : In S w) (hb : Below wr.heap.size wr w') : ItJ w w' S x p i v xs R := by
 have hs := h.bel.size
 exact ⟨h.bel.trans (hb.mono hs), (hb.block _ (lt_of_heap h.box)).trans h.box, h.pair.below (fun b hb => by have := hS b hb; omega) hb, own_keep h.own fun g hg => hb.block g (own_lt h.own g hg).2, h.cnt⟩
theorem ItJ.cells {w wr : World} {S : Nat → Prop} {x : Ob} {p : Value} {i : Nat} {v : Value} {xs : List Value} {R : Option Nat} (h : ItJ w wr S x p i v xs R) {x0 x1 x2 x3 x4 x5 : Value} (e : cellsO x p = [x0, x1, x2, x3, x4, x5, p]) :
 wr.cell? ⟨w.heap.size, 0, none⟩ = some x0 ∧ wr.cell? ⟨w.heap.size, 1, none⟩ = some x1 ∧ wr.cell? ⟨w.heap.size, 2, none⟩ = some x2 ∧ wr.cell? ⟨w.heap.size, 3, none⟩ = some x3 ∧ wr.cell? ⟨w.heap.size, 4, none⟩ = some x4 ∧ wr.cell? ⟨w.heap.size, 5, none⟩ = some x5 ∧ wr.cell? ⟨w.heap.size, 6, none⟩ = some p := by
 have hb := h.box
 rw [e] at hb
 exact (row7 hb).1
theorem ItJ.step {w w1 w4 : World} {S : Nat → Prop} {a d : Ob} {p pd : Value} {i : Nat} {v v' : Value} {xs xs' : List Value} {R : Option Nat} (h : ItJ w w1 S (.cons a d) p i v xs R) (hS : In S w) (y : Obj) (hd : Pair w1 S d pd)
 (h4 : w4.ownsRow (w.heap.size + 1) 39 7 v' (i + 1) xs') (hg : (w1.alloc y).grownBy w4 v.ownBlock) :
 ItJ w (w4.setRow w.heap.size (cellsO d pd).toArray) S d pd (i + 1) v' xs' R := by
 have hown := own_lt h.own
 have hs := h.bel.size
 have hlt := lt_of_heap h.box
 have hb4 : Below w.heap.size w w4 := (Below.alloc h.bel hs y).grown hg (by simp; omega) (fun k hk => by have := (hown k hk).1; omega)
 have keep : ∀ b, b < w1.heap.size → b ≤ w.heap.size → w4.heap[b]? = w1.heap[b]? := fun b h1 h2 =>
  (hg.block b (by simp; omega) (fun e => by have := (hown b e.symm).1; omega)).trans (Below.heap_alloc _ _ _ h1)
 have hbox : w4.heap[w.heap.size]? = _ := (keep _ hlt (Nat.le_refl _)).trans h.box
 refine ⟨below_setRowO hb4 (Nat.le_refl _) _, setRow_heap _ _ _ _ _ _ hbox, ?_, own_keep h4 (fun g hg => setRow_other _ _ _ _ (by have := (own_lt h4 g hg).1; omega)), ?_⟩
 · refine (hd.keep (fun _ h => h) (fun b hb => ?_)).setRow w.heap.size (fun h => by have := hS _ h; omega) _
   have := hS b hb
   exact keep b (by omega) (by omega)
 · have := h.cnt
   simpa [Ob.cnt] using this
/-- The call returned the list of these elements, or none. -/
def RetJo (w : World) (S : Nat → Prop) (r : Option (List Ob)) (e : Ending) (w' : World) : Prop :=
 Below w.heap.size w w' ∧ match r with
 | some l => ∃ A c, e = .returned (.tuple #[.slice A l.length c, .bool true]) ∧ l.length ≤ c ∧ (0 < l.length → ∃ g, A = some ⟨g, 0, none⟩ ∧ ObsAt w' S g 0 l ∧ w.heap.size ≤ g ∧ g < w'.heap.size)
 | none => e = .returned (.tuple #[.slice none 0 0, .bool false])
/-- Between rounds, with the elements. -/
structure ItK (w wr : World) (S : Nat → Prop) (x : Ob) (p : Value) (i : Nat) (v : Value) (ys : List (Ob × Value)) (RL : Option (List Ob)) : Prop extends ItJ w wr S x p i v (flatC ys) (RL.map List.length) where
 prs : ∀ y ∈ ys, Pair wr S y.1 y.2
 all : x.items.map (fsts ys ++ ·) = RL
 len : ys.length = i
theorem ItK.below {w wr w' : World} {S : Nat → Prop} {x : Ob} {p : Value} {i : Nat} {v : Value} {ys : List (Ob × Value)} {RL : Option (List Ob)} (h : ItK w wr S x p i v ys RL) (hS : In S w) (hb : Below wr.heap.size wr w') : ItK w w' S x p i v ys RL := by
 have hs := h.bel.size
 exact ⟨h.toItJ.below hS hb, fun y hy => (h.prs y hy).below (fun b hb => by have := hS b hb; omega) hb, h.all, h.len⟩
theorem ItK.step {w w1 w4 : World} {S : Nat → Prop} {a d : Ob} {p pa pd : Value} {i : Nat} {v v' : Value} {ys : List (Ob × Value)} {RL : Option (List Ob)} (h : ItK w w1 S (.cons a d) p i v ys RL) (hS : In S w) (y : Obj) (ha : Pair w1 S a pa) (hd : Pair w1 S d pd)
 (h4 : w4.ownsRow (w.heap.size + 1) 39 7 v' (i + 1) (flatC ys ++ cellsO a pa)) (hg : (w1.alloc y).grownBy w4 v.ownBlock) :
 ItK w (w4.setRow w.heap.size (cellsO d pd).toArray) S d pd (i + 1) v' (ys ++ [(a, pa)]) RL := by
 have hown := own_lt h.own
 have hs := h.bel.size
 have keep : ∀ b, b < w1.heap.size → b ≤ w.heap.size → w4.heap[b]? = w1.heap[b]? := fun b h1 h2 =>
  (hg.block b (by simp; omega) (fun e => by have := (hown b e.symm).1; omega)).trans (Below.heap_alloc _ _ _ h1)
 have hp : ∀ o q, Pair w1 S o q → Pair (w4.setRow w.heap.size (cellsO d pd).toArray) S o q := fun o q hq => by
  refine (hq.keep (fun _ h => h) (fun b hb => ?_)).setRow w.heap.size (fun h => by have := hS _ h; omega) _
  have := hS b hb
  exact keep b (by omega) (by omega)
 refine ⟨by rw [flatC_snoc]; exact h.toItJ.step hS y hd h4 hg, fun y hy => ?_, ?_, by simp [h.len]⟩
 · rcases List.mem_append.1 hy with hy | hy
   · exact hp _ _ (h.prs y hy)
   · obtain rfl : y = (a, pa) := by simpa using hy
     exact hp _ _ ha
 · have := h.all
   simp only [Ob.items, Option.map_map] at this
   rw [← this]
   congr 1
   funext l
   simp [fsts]
theorem ItK.fin {w wr : World} {S : Nat → Prop} {p : Value} {i : Nat} {v : Value} {ys : List (Ob × Value)} {RL : Option (List Ob)} (h : ItK w wr S .nil p i v ys RL) : RetJo w S RL (.returned (.tuple #[v, .bool true])) wr := by
 have e : RL = some (fsts ys) := by
  have := h.all
  have e2 : Ob.nil.items = some [] := rfl
  rw [e2] at this
  simpa using this.symm
 subst e
 refine ⟨h.bel, ?_⟩
 have hl : (fsts ys).length = i := by simp [fsts, h.len]
 have ho := own_lt h.own
 rcases h.own.2 with ⟨hv, h0⟩ | ⟨g, cap, cur, hv, hb, hh, hn, _, hcs, hcur⟩
 · exact ⟨none, 0, by rw [hv, hl, h0], by omega, fun h1 => by omega⟩
 · refine ⟨_, cap, by rw [hv, hl], by omega, fun _ => ⟨g, rfl, obsAt_row ys 0 h.prs fun j u hj => ?_, by omega, (ho g (by rw [hv]; rfl)).2⟩⟩
   rw [Nat.zero_add, cell_of_row _ _ _ _ _ _ hh]
   rw [← hcur] at hj
   rw [List.getElem?_take] at hj
   split at hj
   · simpa using hj
   · cases hj
theorem itemsRo (o : Ob) (p : Value) (w : World) (S : Nat → Prop) (hS : In S w) (h : Pair w S o p) (hn : o.nodes ≤ 100000) :
 Calls Tryz.prog 90 #[vO o p] w (RetJo w S o.items) := by
 obtain ⟨x0, x1, x2, x3, x4, x5, e⟩ := cells7 o p
 have hR : o.cnt 0 = o.items.map List.length := by rw [Ob.cnt_items]; simp
 obtain ⟨R, hRR⟩ : ∃ R, o.items = R := ⟨_, rfl⟩
 have hA : o.items.map (fsts [] ++ ·) = R := by rw [← hRR]; simp [fsts]
 rw [hRR] at hR ⊢
 clear hRR
 have hb0 : Below w.heap.size w (w.alloc (.cells #[x0, x1, x2, x3, x4, x5, p] 39)) := Below.alloc (Below.refl _ _) (Nat.le_refl _) _
 have hg0 := heap_alloc_new w (.cells #[x0, x1, x2, x3, x4, x5, p] 39)
 have h0 : Hid (ItK w (w.alloc (.cells #[x0, x1, x2, x3, x4, x5, p] 39)) S o p 0 (.slice none 0 0) [] R) :=
  ⟨⟨hb0, by rw [e]; exact hg0, h.below hS hb0, ⟨rfl, .inl ⟨rfl, rfl⟩⟩, hR⟩, fun y hy => by simp at hy, hA, rfl⟩
 have HS := qh9 hS
 have HOUT : Hid (∀ wo x q i v xs, ItK w wo S x q i v xs R → x.isCons = false → (x = .nil → RetJo w S R (.returned (.tuple #[v, .bool true])) wo) ∧ (x ≠ .nil → RetJo w S R (.returned (.tuple #[.slice none 0 0, .bool false])) wo)) := fun wo x q i v xs hx hc => by
  refine ⟨fun hn => ?_, fun hn => ?_⟩
  · subst hn; exact hx.fin
  · have e : R = none := by
     have := hx.all
     have e2 : x.items = none := by
      cases x with
      | cons _ _ => simp [Ob.isCons] at hc
      | num _ => rfl
      | str _ => rfl
      | sym _ _ => simp only [Ob.items]; rw [if_neg hn]
     rw [e2] at this
     exact this.symm
    subst e
    exact ⟨hx.bel, rfl⟩
 clear hA
 clear h hS hR
 unfold vO
 rw [e]
 clear e
 obtain ⟨i0, hi0, hz0, hz1, hz2⟩ := infoO
 have HI0 := qh9 hi0
 have HZ0 := qh9 hz0
 have HZ1 := qh9 hz1
 have HZ2 := qh9 hz2
 clear hi0 hz0 hz1 hz2
 generalize hP : (fun (e : Ending) (w' : World) => RetJo w S R e w') = P
 have hP' : RetJo w S R = P := hP
 rw [hP']
 have HO2 : Hid (∀ wo x q i v xs, ItK w wo S x q i v xs R → x.isCons = false → (x = .nil → P (.returned (.tuple #[v, .bool true])) wo) ∧ (x ≠ .nil → P (.returned (.tuple #[.slice none 0 0, .bool false])) wo)) := by subst hP; exact HOUT
 clear hP hP' HOUT
 go_enter Tryz.func90, Tryz.ntmps90
 go_wp2_with fail
 generalize w.alloc (.cells #[x0, x1, x2, x3, x4, x5, p] 39) = W0 at h0 ⊢
 clear hb0 hg0
 go_loopg [4] o.nodes (fun g u wr => ∃ (x : Ob) (q sl : Value) (i : Nat) (xs : List (Ob × Value)), sl = u ∧ x.nodes ≤ g ∧ i + x.nodes ≤ 100000 ∧ Hid (ItK w wr S x q i sl xs R))
 case atStart => exact ⟨o, p, _, 0, [], rfl, Nat.le_refl _, by omega, h0⟩
 case round =>
  clear h0
  obtain ⟨x, q, sl, i, xs, rfl, hxg, hix, hE⟩ := hrel
  have posx := x.nodes_pos
  obtain ⟨y0, y1, y2, y3, y4, y5, ey⟩ := cells7 x q
  obtain ⟨wo, rfl⟩ : ∃ wo : World, wo = wr := ⟨_, rfl⟩
  have call := qh9 (isConsR x q wo S hE.out.pair)
  have EY := qh9 ey
  unfold vO at call
  rw [ey] at call
  obtain ⟨m0, m1, m2, m3, m4, m5, m6⟩ := hE.out.cells ey
  clear ey
  cases hx : x.isCons with
  | false =>
   rw [hx] at call
   have HX := qh9 hx
   clear hx
   go_wp2_with fail
   refine call.out.mono ?_
   rintro e w1 ⟨rfl, hb1⟩
   have hE1 := qh9 (hE.out.below HS.out hb1)
   clear m0 m1 m2 m3 m4 m5 m6 hE hb1 call
   obtain ⟨m0, m1, m2, m3, m4, m5, m6⟩ := hE1.out.cells EY.out
   have hw1 := hE1.out.bel.size
   have c2 := qh9 (isNilR x q w1 S (HS.out.later hw1) hE1.out.pair)
   have HD : Hid (∀ w2, Below w1.heap.size w1 w2 → (decide (x = .nil) = true → P (.returned (.tuple #[sl, .bool true])) w2) ∧ (decide (x = .nil) = false → P (.returned (.tuple #[.slice none 0 0, .bool false])) w2)) := fun w2 hb => by
    have := HO2.out w2 x q i sl xs (hE1.out.below HS.out hb) HX.out
    exact ⟨fun h => this.1 (of_decide_eq_true h), fun h => this.2 (of_decide_eq_false h)⟩
   unfold vO at c2
   rw [EY.out] at c2
   generalize decide (x = Ob.nil) = t at c2 HD
   go_wp2_with fail
   refine c2.out.mono ?_
   rintro e w2 ⟨rfl, hb2⟩
   have HF := qh9 (HD.out w2 hb2)
   clear m0 m1 m2 m3 m4 m5 m6 hb2 HD c2
   cases t
   · have HF2 := qh9 (HF.out.2 rfl)
     clear HF
     go_wp2
     first | exact HF2.out | (go_ret2; exact HF2.out)
   · have HF2 := qh9 (HF.out.1 rfl)
     clear HF
     go_wp2
     first | exact HF2.out | (go_ret2; exact HF2.out)
  | true =>
   rw [hx] at call
   cases x with
   | cons a d =>
    have hnn : (Ob.cons a d).nodes = 1 + a.nodes + d.nodes := rfl
    have pa1 := a.nodes_pos
    have pd1 := d.nodes_pos
    have hd : d.nodes < gk := by omega
    have hm : i + 1 + d.nodes ≤ 100000 := by omega
    have hi9 : i ≤ 100000 := by omega
    clear hx hnn
    go_wp2_with fail
    refine call.out.mono ?_
    rintro e w1 ⟨rfl, hb1⟩
    have hE1 := qh9 (hE.out.below HS.out hb1)
    clear m0 m1 m2 m3 m4 m5 m6 hE hb1 call
    obtain ⟨b, o', c, pa, pd, rfl, hc, hA, hD⟩ := hE1.out.pair.parts
    obtain ⟨m0, m1, m2, m3, m4, m5, m6⟩ := hE1.out.cells EY.out
    obtain ⟨u0, u1, u2, u3, u4, u5, ea, l0, l1, l2, l3, l4, l5, l6⟩ := hA.cells
    have hw1 := hE1.out.bel.size
    have hw1b := lt_of_heap hE1.out.box
    have hbS : b < w.heap.size := HS.out b hA.1.1
    have own3 : Hid ((w1.alloc (.cells #[u0, u1, u2, u3, u4, u5, pa] 39)).ownsRow (w.heap.size + 1) 39 7 sl i (flatC xs)) := own_keep hE1.out.own fun g hg => Below.heap_alloc _ _ _ (own_lt hE1.out.own g hg).2
    have hone : ∀ u ∈ cellsO a pa, u.oneCell' = true := by
     have := hA.2.2.one
     intro u hu
     rw [Array.all_eq_true_iff_forall_mem] at this
     exact this u (by simpa using hu)
    rw [ea] at hone
    have HONE := qh9 hone
    have HNEWS : Hid (∀ j u, [u0, u1, u2, u3, u4, u5, pa][j]? = some u → (w1.alloc (.cells #[u0, u1, u2, u3, u4, u5, pa] 39)).cell? ((⟨w1.heap.size, 0, none⟩ : Addr).add j) = some u) := newsO (cs := #[u0, u1, u2, u3, u4, u5, pa]) rfl
    have hs3 : w.heap.size + 1 ≤ (w1.alloc (.cells #[u0, u1, u2, u3, u4, u5, pa] 39)).heap.size := by simp; omega
    obtain ⟨t0, t1, t2, t3, t4, t5, ed⟩ := cells7 d pd
    have HSTEP : Hid (∀ v' w4, w4.ownsRow (w.heap.size + 1) 39 7 v' (i + 1) (flatC xs ++ [u0, u1, u2, u3, u4, u5, pa]) → (w1.alloc (.cells #[u0, u1, u2, u3, u4, u5, pa] 39)).grownBy w4 sl.ownBlock →
     Hid (ItK w (w4.setRow w.heap.size #[t0, t1, t2, t3, t4, t5, pd]) S d pd (i + 1) v' (xs ++ [(a, pa)]) R) ∧ w4.heap[w.heap.size]? = some (.cells #[y0, y1, y2, y3, y4, y5, .slice (some ⟨b, o', none⟩) 2 c] 39 (0, 0)) ∧
     (w4.cell? ⟨b, o' + 7, none⟩ = some t0 ∧ w4.cell? ⟨b, o' + 7 + 1, none⟩ = some t1 ∧ w4.cell? ⟨b, o' + 7 + 2, none⟩ = some t2 ∧ w4.cell? ⟨b, o' + 7 + 3, none⟩ = some t3 ∧ w4.cell? ⟨b, o' + 7 + 4, none⟩ = some t4 ∧ w4.cell? ⟨b, o' + 7 + 5, none⟩ = some t5 ∧ w4.cell? ⟨b, o' + 7 + 6, none⟩ = some pd)) := fun v' w4 h4 hg => by
     have hown := own_lt hE1.out.own
     have keep : ∀ k, k < w1.heap.size → k ≤ w.heap.size → w4.heap[k]? = w1.heap[k]? := fun k h1 h2 =>
      (hg.block k (by simp; omega) (fun e => by have := (hown k e.symm).1; omega)).trans (Below.heap_alloc _ _ _ h1)
     have st := hE1.out.step HS.out _ hA.2.2 hD.2.2 (by rw [ea]; exact h4) hg
     rw [ed] at st
     refine ⟨st, ?_, ?_⟩
     · rw [keep _ hw1b (Nat.le_refl _)]
       have := hE1.out.box
       rw [EY.out] at this
       exact this
     · have hD4 := hD.keep (w' := w4) (S' := S) (fun _ h => h) (fun k hk => keep k (by have := HS.out k hk; omega) (by have := HS.out k hk; omega))
       obtain ⟨_, _, _, _, _, _, ed', k0, k1, k2, k3, k4, k5, k6⟩ := hD4.cells
       rw [ed] at ed'
       simp only [List.cons.injEq, and_true] at ed'
       obtain ⟨rfl, rfl, rfl, rfl, rfl, rfl⟩ := ed'
       exact ⟨k0, k1, k2, k3, k4, k5, k6⟩
    have HPD : Hid ((#[t0, t1, t2, t3, t4, t5, pd] : Array Value).all (·.oneCell') = true) := by
     have := hD.2.2.one
     rw [ed] at this
     exact this
    clear hA hD ea ed hone hw1 hw1b
    go_wp2_with (first
     | (at_builtin; refine wpList_append_own_at _ rfl (.tmp 7) (.tmp 12) _ rfl (w.heap.size + 1) 39 i0 _ 7 112 Tryz.underlying37 HI0.out HZ0.out HZ1.out HZ2.out rfl (by omega) sl i (flatC xs) rfl own3.out ⟨w1.heap.size, 0, none⟩ 1 1 [u0, u1, u2, u3, u4, u5, pa] rfl rfl HNEWS.out HONE.out (by simp only [maxLen]; omega) (by omega) hs3 ?_; intro v4 w4 hown4 hg4 hnil4 hat4; obtain ⟨hst, hbx, hcl⟩ := HSTEP.out v4 w4 hown4 hg4; have HBX := qh9 hbx; have HCL := qh9 hcl; clear hown4 hg4 hnil4 hat4 hbx hcl m0 m1 m2 m3 m4 m5 m6 l0 l1 l2 l3 l4 l5 l6; obtain ⟨m0, m1, m2, m3, m4, m5, m6⟩ := (row7 HBX.out).1; obtain ⟨k0, k1, k2, k3, k4, k5, k6⟩ := HCL.out)
     | (refine storeO rfl (.tmp 1) (.tmp 17) rfl w.heap.size #[t0, t1, t2, t3, t4, t5, pd] rfl rfl _ _ HBX.out rfl rfl HPD.out ?_))
    all_goals go_roundg d.nodes
    all_goals first | exact hd | exact ⟨d, pd, _, i + 1, _, rfl, Nat.le_refl _, hm, hst⟩
   | _ => simp [Ob.isCons] at hx
end Go.Proofs.YtlmnjelideegnaaGreatDoor
