import Derived.Test.YtlmnjelideegnaaGreatDoorDl
import Derived.Test.YtlmnjelideegnaaGreatDoorM29
import Derived.Test.YtlmnjelideegnaaGreatDoorM31
import Derived.Test.YtlmnjelideegnaaGreatDoorM17
import Derived.Test.YtlmnjelideegnaaGreatDoorM30
import Derived.Test.YtlmnjelideegnaaGreatDoorM18
import Derived.Test.YtlmnjelideegnaaGreatDoorM26
import Derived.BigRegion
import Derived.IntWalk
import Derived.Test.YtlmnjelideegnaaGreatDoorM24
import Derived.Test.YtlmnjelideegnaaGreatDoorM25
import Derived.Deep.RegionHeld3
import Derived.BigQuiet
namespace Go.Proofs.YtlmnjelideegnaaGreatDoor
open Go Go.RowKit
set_option linter.unusedVariables false
set_option maxHeartbeats 32000000
set_option maxRecDepth 100000
theorem packages6 (w : World) : Calls Tryz.prog 13 #[] w (fun e w' => ∃ x, e = .returned x ∧ Sy.PgV w' userM x ∧ Below w.heap.size w w') := by
 go_enter Tryz.func13, Tryz.ntmps13
 go_wp2_with fail
 refine (initialR5 _).mono ?_
 rintro e w1 ⟨x, rfl, hx, hb⟩
 have HX := qh9 hx
 have HB := qh9 hb
 clear hx hb
 go_wp2_with fail
 refine (lispO ⟨#[99, 97, 114]⟩ _).mono ?_
 rintro e w2 ⟨rfl, hb⟩
 replace HX := qh9 (HX.out.keep hb)
 replace HB := qc9 HB hb
 clear hb
 go_wp2_with fail
 refine (lispO ⟨#[110, 105, 108]⟩ _).mono ?_
 rintro e w3 ⟨rfl, hb⟩
 replace HX := qh9 (HX.out.keep hb)
 replace HB := qc9 HB hb
 clear hb
 go_wp2_with fail
 refine (lispO ⟨#[116]⟩ _).mono ?_
 rintro e w4 ⟨rfl, hb⟩
 replace HX := qh9 (HX.out.keep hb)
 replace HB := qc9 HB hb
 clear hb
 go_wp2_with fail
 refine (defR w4 x HX.out).mono ?_
 rintro e w5 ⟨y, rfl, hy, hb⟩
 have HY := qh9 hy
 replace HB := qh9 (chain2 HB.out (chain2 (below_al w4 (.cells #[.string (BA lispB), .string ⟨#[99, 97, 114]⟩, .string (BA lispB), .string ⟨#[110, 105, 108]⟩, .string (BA lispB), .string ⟨#[116]⟩] 23)) hb (Nat.le_refl _)) (Nat.le_refl _))
 clear hy hb
 go_wp2
 go_ret
 exact ⟨y, rfl, HY.out, HB.out⟩
/-- One half. -/
def hfU : Rat := quo (LA ⟨#[49]⟩) (LA ⟨#[50]⟩)
def aU : Ob := .sym lispB [97]
def inU : Ob := Ob.list [aU, .num hfU]
def oU : Ob := Ob.list [quoteO, inU]
theorem symF6 (s : ByteArray) (w : World) : Calls Tryz.prog 26 #[.agg #[.string (BA lispB), .string s]] w (fun e w' => e = .returned (.agg #[.int .i64 2, .string ⟨#[]⟩, .string ⟨#[]⟩, .string (BA lispB), .string s, .string ⟨#[]⟩, .slice none 0 0]) ∧ Below w.heap.size w w') :=
 (symO (BA lispB) s w NoB).mono fun e w' ⟨p, he, hp, hb⟩ => by
   have hpe : p = .slice none 0 0 := hp
   subst hpe
   refine ⟨he.trans ?_, hb⟩
   show Ending.returned (.agg #[.int .i64 2, .string ⟨#[]⟩, .string ⟨#[]⟩, .string (BA (LA (BA lispB))), .string (BA (LA s)), .string ⟨#[]⟩, .slice none 0 0]) = _
   rw [BA_LA, BA_LA]
theorem ratF6 (w : World) : Calls Tryz.prog 29 #[.string ⟨#[49]⟩, .string ⟨#[50]⟩] w (fun e w' => e = .returned (.agg #[.int .i64 1, .string (nt hfU), .string (dt hfU), .string ⟨#[]⟩, .string ⟨#[]⟩, .string ⟨#[]⟩, .slice none 0 0]) ∧ Below w.heap.size w w') :=
 (ratO ⟨#[49]⟩ ⟨#[50]⟩ w NoB (NoB.in w) (by decide) (by decide)).mono fun e w' ⟨p, he, hp, hb⟩ => by
   have hpe : p = .slice none 0 0 := hp
   subst hpe
   exact ⟨he, hb⟩
theorem obs2U {w : World} {S : Nat → Prop} {x y : Ob} {p q : Value} {g : Nat} {cs : Array Value} (hx : Pair w S x p) (hy : Pair w S y q) (hg : w.heap[g]? = some (.cells cs 39 (0, 0))) (hc : cs = (cellsO x p ++ cellsO y q).toArray) : ObsAt w S g 0 [x, y] := by
 subst hc
 have hl : (cellsO x p).length = 7 := cellsO_length _ _
 unfold ObsAt
 refine ⟨⟨p, hx, fun j u hj => ?_⟩, ?_⟩
 · have hj7 : j < 7 := by
    rcases Nat.lt_or_ge j 7 with h | h
    · exact h
    · rw [List.getElem?_eq_none (by omega)] at hj; cases hj
   rw [Nat.zero_add, cell_of_row _ _ _ _ _ _ hg, List.getElem?_toArray, List.getElem?_append_left (by omega)]
   exact hj
 · unfold ObsAt
   refine ⟨⟨q, hy, fun j u hj => ?_⟩, by unfold ObsAt; trivial⟩
   rw [cell_of_row _ _ _ _ _ _ hg, List.getElem?_toArray, List.getElem?_append_right (by omega), show 0 + 7 + j - (cellsO x p).length = j from by omega]
   exact hj
theorem list2U (x y : Ob) (p q : Value) (w : World) (cs : Array Value) (hc : cs = (cellsO x p ++ cellsO y q).toArray) (hx : Hd w x p) (hy : Hd w y q) :
 Calls Tryz.prog 27 #[.slice (some ⟨w.heap.size, 0, none⟩) 2 2] (w.alloc (.cells cs 39)) (RetH (w.alloc (.cells cs 39)) (Ob.list [x, y])) := by
 have hb := below_al w (.cells cs 39)
 have hs : w.heap.size < (w.alloc (.cells cs 39)).heap.size := by simp
 exact (listO [x, y] (some ⟨w.heap.size, 0, none⟩) 2 (w.alloc (.cells cs 39)) (Has _) (In.has _) (Nat.le_refl 2) (show 2 ≤ 100000 by decide) (fun _ => ⟨_, 0, rfl, hs, obs2U (hx.below hb) (hy.below hb) (heap_alloc_new _ _) hc⟩)).mono fun _ _ h => h.h (In.has _)
theorem oU_pr : prV initM5 ⟨#[108, 105, 115, 112]⟩ oU true = (⟨#[39, 40, 97, 32, 49, 47, 50, 41]⟩, 0) := by kernel_rfl
theorem oU_bd : oU.bd 90 := ⟨(⟨.inl rfl, by decide, by decide⟩ : SyOk lispB [113, 117, 111, 116, 101]), ⟨⟨(⟨.inl rfl, by decide, by decide⟩ : SyOk lispB [97]), (bd_quo (k := 1) (Nat.le_refl _) (Nat.le_refl _) (by decide)).more (by decide), nil_ok⟩, nil_ok⟩⟩
theorem first6 (w : World) (hT : EscT w) : Calls Tryz.prog 10 #[] w (RetB w true) := by
 have HT := qh9 hT
 clear hT
 have HW : Hid (Below w.heap.size w w) := Below.refl _ _
 go_enter Tryz.func10, Tryz.ntmps10
 go_wp2_with fail
 with_reducible refine (lispO _ _).mono ?_
 rintro e w1 ⟨rfl, hb⟩
 replace HW := qc9 HW hb
 clear hb
 go_wp2_with fail
 with_reducible refine (symF6 _ _).mono ?_
 rintro e w2 ⟨rfl, hb⟩
 replace HW := qc9 HW hb
 clear hb
 go_wp2_with fail
 with_reducible refine (lispO _ _).mono ?_
 rintro e w3 ⟨rfl, hb⟩
 replace HW := qc9 HW hb
 clear hb
 go_wp2_with fail
 with_reducible refine (symF6 _ _).mono ?_
 rintro e w4 ⟨rfl, hb⟩
 replace HW := qc9 HW hb
 clear hb
 go_wp2_with fail
 with_reducible refine (ratF6 _).mono ?_
 rintro e w5 ⟨rfl, hb⟩
 replace HW := qc9 HW hb
 clear hb
 have K1 := qh9 (list2U aU (.num hfU) (.slice none 0 0) (.slice none 0 0) w5 #[.int .i64 2, .string ⟨#[]⟩, .string ⟨#[]⟩, .string (BA lispB), .string ⟨#[97]⟩, .string ⟨#[]⟩, .slice none 0 0, .int .i64 1, .string (nt hfU), .string (dt hfU), .string ⟨#[]⟩, .string ⟨#[]⟩, .string ⟨#[]⟩, .slice none 0 0] rfl rfl rfl)
 go_wp2_with fail
 replace HW := qh9 (chain2 HW.out (below_al w5 (.cells #[.int .i64 2, .string ⟨#[]⟩, .string ⟨#[]⟩, .string (BA lispB), .string ⟨#[97]⟩, .string ⟨#[]⟩, .slice none 0 0, .int .i64 1, .string (nt hfU), .string (dt hfU), .string ⟨#[]⟩, .string ⟨#[]⟩, .string ⟨#[]⟩, .slice none 0 0] 39)) (Nat.le_refl _))
 with_reducible refine K1.out.mono ?_
 rintro e w6 ⟨p1, rfl, hp1, hb⟩
 replace HW := qc9 HW hb
 clear hb K1
 rw [show vO (Ob.list [aU, .num hfU]) p1 = .agg #[.int .i64 4, .string ⟨#[]⟩, .string ⟨#[]⟩, .string ⟨#[]⟩, .string ⟨#[]⟩, .string ⟨#[]⟩, p1] from rfl]
 have K2 := qh9 (list2U quoteO inU (.slice none 0 0) p1 w6 #[.int .i64 2, .string ⟨#[]⟩, .string ⟨#[]⟩, .string (BA lispB), .string ⟨#[113, 117, 111, 116, 101]⟩, .string ⟨#[]⟩, .slice none 0 0, .int .i64 4, .string ⟨#[]⟩, .string ⟨#[]⟩, .string ⟨#[]⟩, .string ⟨#[]⟩, .string ⟨#[]⟩, p1] rfl rfl hp1)
 clear hp1
 go_wp2_with fail
 replace HW := qh9 (chain2 HW.out (below_al w6 (.cells #[.int .i64 2, .string ⟨#[]⟩, .string ⟨#[]⟩, .string (BA lispB), .string ⟨#[113, 117, 111, 116, 101]⟩, .string ⟨#[]⟩, .slice none 0 0, .int .i64 4, .string ⟨#[]⟩, .string ⟨#[]⟩, .string ⟨#[]⟩, .string ⟨#[]⟩, .string ⟨#[]⟩, p1] 39)) (Nat.le_refl _))
 with_reducible refine K2.out.mono ?_
 rintro e w7 ⟨p2, rfl, hp2, hb⟩
 replace HW := qc9 HW hb
 clear hb K2
 have HP := qh9 hp2
 have T1 := qh9 (aO_new w7 #[.int .i64 0, .string ⟨#[]⟩, .string ⟨#[]⟩, .string ⟨#[]⟩, .string ⟨#[]⟩, .string ⟨#[]⟩, .slice none 0 0])
 unfold aO at T1
 clear hp2
 go_upto_region 2 with ((with_reducible refine storeB (w1 := w7) (g := w7.heap.size) (b := Ob.list [quoteO, inU]) (p := p2) (.tmp 1) (.tmp 12) ?_ ?_ ?_ ?_ HP.out T1.out ?_); rfl; rfl; rfl; rfl; have P := Pt1U.new (w := w7) (o := Ob.list [quoteO, inU]) (p := p2) (z := #[.int .i64 0, .string ⟨#[]⟩, .string ⟨#[]⟩, .string ⟨#[]⟩, .string ⟨#[]⟩, .string ⟨#[]⟩, .slice none 0 0]); generalize World.setRow (w7.alloc (.cells #[.int .i64 0, .string ⟨#[]⟩, .string ⟨#[]⟩, .string ⟨#[]⟩, .string ⟨#[]⟩, .string ⟨#[]⟩, .slice none 0 0] 39)) w7.heap.size (cellsO (Ob.list [quoteO, inU]) p2).toArray = X1 at P ⊢; replace HW := qh9 (chain2 HW.out P.bel (Nat.le_refl _)); replace HP := qh9 (HP.out.below P.bel); have D0 := qh9 P.b0; clear P T1)
 generalize w7.heap.size = g at D0 ⊢
 have D1 : Hid (Bx X1 g #[.int .i64 4, .string ⟨#[]⟩, .string ⟨#[]⟩, .string ⟨#[]⟩, .string ⟨#[]⟩, .string ⟨#[]⟩, p2]) := D0.out
 have D2 : Hid (Bx X1.drew g #[.int .i64 4, .string ⟨#[]⟩, .string ⟨#[]⟩, .string ⟨#[]⟩, .string ⟨#[]⟩, .string ⟨#[]⟩, p2]) := D0.out
 obtain ⟨m0, m1, m2, m3, m4, m5, m6⟩ := Bx.c D1.out
 obtain ⟨n0, n1, n2, n3, n4, n5, n6⟩ := Bx.c D2.out
 have CP : Hid (∀ X x, Below X1.heap.size X1 X → Sy.PgV X initM5 x → Calls Tryz.prog 18 #[x, .string ⟨#[108, 105, 115, 112]⟩, .agg #[.int .i64 4, .string ⟨#[]⟩, .string ⟨#[]⟩, .string ⟨#[]⟩, .string ⟨#[]⟩, .string ⟨#[]⟩, p2]] X (RetTE X ⟨#[39, 40, 97, 32, 49, 47, 50, 41]⟩ 0)) := fun X x hX hx => by
  have := printP initM5 x ⟨#[108, 105, 115, 112]⟩ oU p2 true X hx (by decide) (by decide) (HT.out.keep (HW.out.trans (hX.mono HW.out.size))) (HP.out.below hX) 90 (by decide) oU_bd (by decide) (fun Y hY => validP oU p2 Y (Has Y) oU_bd (by decide) (In.has Y) ((HP.out.below hX).below hY))
  rw [oU_pr] at this
  exact this
 clear D0
 go_wp2_with fail
 go_region_with (first | (go_at_call 30; (with_reducible refine (initialR5 _).mono ?_); rintro e w8 ⟨x, rfl, hx, hb8⟩; have Z8 := qh9 ((Below.drew (Below.refl X1.heap.size X1)).trans hb8); obtain ⟨r0, r1, r2, r3, r4, r5, r6⟩ := Bx.c (D1.out.keep Z8.out); have HX := qh9 hx; clear hb8 hx) | (go_at_call 18; (with_reducible refine (CP.out _ _ Z8.out HX.out).mono ?_); rintro e w9 ⟨rfl, hb9⟩; have Z9 := qc9 Z8 hb9))
 all_goals (have HF := qh9 (chain2 HW.out Z9.out (Nat.le_refl _)); go_wp2; go_ret; exact ⟨rfl, HF.out⟩)







structure Pt1 (w X : World) (o : Ob) (p : Value) : Prop where
 bel : Below w.heap.size w X
 b0 : Bx X w.heap.size (cellsO o p).toArray


def Ad (w : World) (o : Ob) (b k : Nat) (p : Value) : Prop := At w (Has w) o b k p
/-- A raw tree in its box. -/
def RwB (W : World) (g : Nat) (a b c d : Value) : Prop := W.heap[g]? = some (.cells #[a, b, c, d] 35 (0, 0))
theorem RwB.keep {W W' : World} {g : Nat} {a b c d : Value} (h : RwB W g a b c d) (hb : Below W.heap.size W W') : RwB W' g a b c d := (hb.block g (blk_lt h)).trans h
theorem RwB.c {W : World} {g : Nat} {a b c d : Value} (h : RwB W g a b c d) : W.cell? ⟨g, 0, none⟩ = some a ∧ W.cell? ⟨g, 1, none⟩ = some b ∧ W.cell? ⟨g, 2, none⟩ = some c ∧ W.cell? ⟨g, 3, none⟩ = some d := by
 refine ⟨?_, ?_, ?_, ?_⟩ <;> (rw [cell_of_row _ _ _ _ _ _ h]; rfl)
theorem RetX.hU {w w' : World} {m : Nat} {e : Ending} (h : RetX w m e w') : ∃ o p, e = .returned (vO o p) ∧ Hd w' o p ∧ Below w.heap.size w w' ∧ OkO m o := by
 obtain ⟨o, p, h1, h2, h3, h4⟩ := h
 exact ⟨o, p, h1, h2.more (fun b hb => by rcases hb with hb | hb; exact hb.elim; exact hb.2), h3, h4⟩
/-- The text of an object, with those of the elements that a line can be broken between. -/
inductive Tr where
 | mk (t : List UInt8) (l : List Tr)
def Tr.t : Tr → List UInt8 | .mk t _ => t
def Tr.l : Tr → List Tr | .mk _ l => l
section
variable (nm : List UInt8 → List UInt8 → List UInt8)
mutual
def trO : Ob → Tr
 | .cons a d => .mk (prO nm (.cons a d)) (if isQU a d = true then [] else if prpU d = true then trO a :: trE d else [])
 | .num q => .mk (numS q) []
 | .str s => .mk (escL 34 s) []
 | .sym p m => .mk (nm p m) []
def trE : Ob → List Tr
 | .cons a d => trO a :: trE d
 | _ => []
end
theorem trO_t (o : Ob) : (trO nm o).t = prO nm o := by
 cases o <;> (unfold trO; rfl)
/-- The span is that of the tree in this text. -/
inductive Sg (full : List UInt8) : Spn → Tr → Prop where
 | mk (s e : Nat) (l : List Spn) (t : List UInt8) (r : List Tr) : e = s + t.length → e ≤ full.length → (full.drop s).take t.length = t → l.length = r.length →
  (∀ (i : Nat) (x : Spn) (y : Tr), l[i]? = some x → r[i]? = some y → Sg full x y) → Sg full (.mk s e l) (.mk t r)
theorem seg_app (A t B : List UInt8) : ((A ++ t ++ B).drop A.length).take t.length = t := by
 rw [List.append_assoc, List.drop_left]
 exact List.take_left
theorem spE_trE_len : ∀ (d : Ob) (n : Nat), (spE nm n d).length = (trE nm d).length
 | .cons a d, n => by
  have := spE_trE_len d (n + 1 + (prO nm a).length)
  show (spE nm (n + 1 + (prO nm a).length) d).length + 1 = (trE nm d).length + 1
  omega
 | .num _, _ => rfl
 | .str _, _ => rfl
 | .sym _ _, _ => rfl
mutual
theorem sg_ob (full : List UInt8) : ∀ (o : Ob) (A B : List UInt8), full = A ++ prO nm o ++ B → Sg full (spU nm A.length o) (trO nm o)
 | .num q, A, B, h => by
  have e : spU nm A.length (.num q) = .mk A.length (A.length + (numS q).length) [] := rfl
  rw [e]
  subst h
  exact .mk _ _ _ _ _ rfl (by show _ ≤ (A ++ numS q ++ B).length; simp) (seg_app A (numS q) B) rfl (fun i x y hx => by simp at hx)
 | .str q, A, B, h => by
  have e : spU nm A.length (.str q) = .mk A.length (A.length + (escL 34 q).length) [] := rfl
  rw [e]
  subst h
  exact .mk _ _ _ _ _ rfl (by show _ ≤ (A ++ escL 34 q ++ B).length; simp) (seg_app A (escL 34 q) B) rfl (fun i x y hx => by simp at hx)
 | .sym p m, A, B, h => by
  have e : spU nm A.length (.sym p m) = .mk A.length (A.length + (nm p m).length) [] := rfl
  rw [e]
  subst h
  exact .mk _ _ _ _ _ rfl (by show _ ≤ (A ++ nm p m ++ B).length; simp) (seg_app A (nm p m) B) rfl (fun i x y hx => by simp at hx)
 | .cons a d, A, B, h => by
  have e : spU nm A.length (.cons a d) = .mk A.length (A.length + (prO nm (.cons a d)).length) (if isQU a d = true then [] else if prpU d = true then spU nm (A.length + 1) a :: spE nm (A.length + 1 + (prO nm a).length) d else []) := rfl
  have e2 : trO nm (.cons a d) = .mk (prO nm (.cons a d)) (if isQU a d = true then [] else if prpU d = true then trO nm a :: trE nm d else []) := rfl
  rw [e, e2]
  by_cases hq : isQU a d = true
  · rw [if_pos hq, if_pos hq]
    refine .mk _ _ _ _ _ rfl ?_ ?_ rfl (fun i x y hx => by simp at hx)
    · rw [h]; simp
    · rw [h]; exact seg_app A _ B
  · rw [if_neg hq, if_neg hq]
    by_cases hp : prpU d = true
    · rw [if_pos hp, if_pos hp]
      have e1 : prO nm (.cons a d) = 40 :: (prO nm a ++ prT nm d) := by rw [prO_cons, if_neg hq]
      have ha := sg_ob full a (A ++ [40]) (prT nm d ++ B) (by rw [h, e1]; simp)
      have hd := sg_el full d (A ++ [40] ++ prO nm a) B (by rw [h, e1]; simp)
      have l1 : (A ++ [40]).length = A.length + 1 := by simp
      have l2 : (A ++ [40] ++ prO nm a).length = A.length + 1 + (prO nm a).length := by rw [List.length_append, l1]
      rw [l1] at ha
      rw [l2] at hd
      refine .mk _ _ _ _ _ rfl ?_ ?_ ?_ (fun i x y hx hy => ?_)
      · rw [h]; simp
      · rw [h]; exact seg_app A _ B
      · simp only [List.length_cons]; rw [spE_trE_len]
      · cases i with
        | zero =>
         simp only [List.getElem?_cons_zero, Option.some.injEq] at hx hy
         subst hx hy
         exact ha
        | succ i =>
         simp only [List.getElem?_cons_succ] at hx hy
         exact hd i x y hx hy
    · rw [if_neg hp, if_neg hp]
      refine .mk _ _ _ _ _ rfl ?_ ?_ rfl (fun i x y hx => by simp at hx)
      · rw [h]; simp
      · rw [h]; exact seg_app A _ B
theorem sg_el (full : List UInt8) : ∀ (d : Ob) (A B : List UInt8), full = A ++ prT nm d ++ B → ∀ (i : Nat) (x : Spn) (y : Tr), (spE nm A.length d)[i]? = some x → (trE nm d)[i]? = some y → Sg full x y
 | .cons a d, A, B, h, i, x, y, hx, hy => by
  have e1 : prT nm (.cons a d) = 32 :: (prO nm a ++ prT nm d) := rfl
  have ha := sg_ob full a (A ++ [32]) (prT nm d ++ B) (by rw [h, e1]; simp)
  have hd := sg_el full d (A ++ [32] ++ prO nm a) B (by rw [h, e1]; simp)
  have l1 : (A ++ [32]).length = A.length + 1 := by simp
  have l2 : (A ++ [32] ++ prO nm a).length = A.length + 1 + (prO nm a).length := by rw [List.length_append, l1]
  rw [l1] at ha
  rw [l2] at hd
  have e : spE nm A.length (.cons a d) = spU nm (A.length + 1) a :: spE nm (A.length + 1 + (prO nm a).length) d := by rw [spE]
  have e2 : trE nm (.cons a d) = trO nm a :: trE nm d := by rw [trE]
  rw [e] at hx
  rw [e2] at hy
  cases i with
  | zero =>
   simp only [List.getElem?_cons_zero, Option.some.injEq] at hx hy
   subst hx hy
   exact ha
  | succ i =>
   simp only [List.getElem?_cons_succ] at hx hy
   exact hd i x y hx hy
 | .num _, A, B, h, i, x, y, hx, hy => by simp [spE] at hx
 | .str _, A, B, h, i, x, y, hx, hy => by simp [spE] at hx
 | .sym _ _, A, B, h, i, x, y, hx, hy => by simp [spE] at hx
end
end
/-- The first line of a list opens it, the others are indented. -/
def opn : List (List UInt8) → List (List UInt8)
 | [] => []
 | x :: r => (40 :: x) :: r.map (32 :: ·)
/-- The last line closes the list. -/
def clo : List (List UInt8) → List (List UInt8)
 | [] => []
 | [x] => [x ++ [41]]
 | x :: y :: r => x :: clo (y :: r)
mutual
/-- The lines of a tree. -/
def linT : Int → Tr → List (List UInt8)
 | W, .mk t l => if (t.length : Int) ≤ W ∨ l.length < 2 then [t] else clo (opn (linTs (W - 1) l))
def linTs : Int → List Tr → List (List UInt8)
 | _, [] => []
 | W, x :: r => linT W x ++ linTs W r
end
theorem clo_ne {l : List (List UInt8)} (h : l ≠ []) : clo l ≠ [] := by
 match l, h with
 | [x], _ => simp [clo]
 | x :: y :: r, _ => simp [clo]
theorem opn_ne {l : List (List UInt8)} (h : l ≠ []) : opn l ≠ [] := by
 match l, h with
 | x :: r, _ => simp [opn]
mutual
theorem linT_ne : ∀ (W : Int) (t : Tr), linT W t ≠ []
 | W, .mk t l => by
  unfold linT
  split
  · simp
  · rename_i h
    have : l ≠ [] := by
     intro e
     subst e
     exact h (.inr (by simp))
    exact clo_ne (opn_ne (linTs_ne (W - 1) l this))
theorem linTs_ne : ∀ (W : Int) (l : List Tr), l ≠ [] → linTs W l ≠ []
 | W, [], h => absurd rfl h
 | W, x :: r, _ => by
  unfold linTs
  have := linT_ne W x
  simp [this]
end
/-- What stands ahead of the first line, and as much room ahead of the others. -/
def pre (bf : List UInt8) : List (List UInt8) → List (List UInt8)
 | [] => []
 | x :: r => (bf ++ x) :: r.map (List.replicate bf.length 32 ++ ·)
theorem pre_sp (n : Nat) (l : List (List UInt8)) : pre (List.replicate n 32) l = l.map (List.replicate n 32 ++ ·) := by
 cases l with
 | nil => rfl
 | cons x r => simp [pre]
theorem clo_map (f : List UInt8 → List UInt8) (hf : ∀ x, f (x ++ [41]) = f x ++ [41]) : ∀ l, (clo l).map f = clo (l.map f)
 | [] => rfl
 | [x] => by simp [clo, hf]
 | x :: y :: r => by
  have := clo_map f hf (y :: r)
  simp only [clo, List.map_cons] at this ⊢
  rw [this]
theorem pre_clo (bf : List UInt8) : ∀ l, pre bf (clo l) = clo (pre bf l)
 | [] => rfl
 | [x] => by simp [pre, clo]
 | x :: y :: r => by
  have e : clo (x :: y :: r) = x :: clo (y :: r) := rfl
  have e2 : pre bf (x :: y :: r) = (bf ++ x) :: (y :: r).map (List.replicate bf.length 32 ++ ·) := rfl
  rw [e, e2]
  show (bf ++ x) :: (clo (y :: r)).map _ = _
  rw [clo_map _ (fun x => by simp)]
  rfl
theorem pre_opn (bf x : List UInt8) (r : List (List UInt8)) : pre bf (opn (x :: r)) = (bf ++ [40] ++ x) :: r.map (List.replicate (bf.length + 1) 32 ++ ·) := by
 show (bf ++ 40 :: x) :: (r.map (32 :: ·)).map (List.replicate bf.length 32 ++ ·) = _
 have e : bf ++ 40 :: x = bf ++ [40] ++ x := by simp
 rw [e, List.map_map]
 congr 1
 apply List.map_congr_left
 intro z _
 show List.replicate bf.length 32 ++ 32 :: z = List.replicate (bf.length + 1) 32 ++ z
 rw [List.replicate_succ']
 simp
/-- The lines of the elements, one element after another: the first behind bf, the others indented. -/
def preAll (W : Int) (bf : List UInt8) (k : Nat) : List Tr → List (List UInt8)
 | [] => []
 | x :: r => pre bf (linT W x) ++ (linTs W r).map (List.replicate k 32 ++ ·)
theorem preAll_eq (W : Int) (bf : List UInt8) (l : List Tr) : preAll W (bf ++ [40]) (bf.length + 1) l = pre bf (opn (linTs W l)) := by
 cases l with
 | nil => rfl
 | cons x r =>
  have hx := linT_ne W x
  have e1 : linTs W (x :: r) = linT W x ++ linTs W r := by rw [linTs]
  have e2 : preAll W (bf ++ [40]) (bf.length + 1) (x :: r) = pre (bf ++ [40]) (linT W x) ++ (linTs W r).map (List.replicate (bf.length + 1) 32 ++ ·) := rfl
  rw [e1, e2]
  cases hl : linT W x with
  | nil => exact absurd hl hx
  | cons y ys =>
   rw [List.cons_append, pre_opn, List.map_append]
   have : (bf ++ [40]).length = bf.length + 1 := by simp
   show ((bf ++ [40] ++ y) :: ys.map (List.replicate (bf ++ [40]).length 32 ++ ·)) ++ _ = _
   rw [this]
   rfl
theorem lin_broken {W : Int} {bf t : List UInt8} {l : List Tr} (h : ¬ ((t.length : Int) ≤ W - bf.length ∨ l.length < 2)) : pre bf (linT (W - bf.length) (.mk t l)) = clo (preAll (W - bf.length - 1) (bf ++ [40]) (bf.length + 1) l) := by
 unfold linT
 rw [if_neg h, pre_clo, preAll_eq]
theorem lin_whole {W : Int} {bf t : List UInt8} {l : List Tr} (h : (t.length : Int) ≤ W - bf.length ∨ l.length < 2) : pre bf (linT (W - bf.length) (.mk t l)) = [bf ++ t] := by
 unfold linT
 rw [if_pos h]
 simp [pre]
def strC (ls : List (List UInt8)) : List Value := ls.map fun x => .string (BA x)
theorem strC_app (a b : List (List UInt8)) : strC (a ++ b) = strC a ++ strC b := by simp [strC]
/-- What was there before stands: all below B, and every block but g that is no row of strings. -/
structure KpS (B g : Nat) (w w' : World) : Prop where
 bel : Below B w w'
 keep : ∀ k, k < w.heap.size → k ≠ g → (∀ cur fr, w.heap[k]? ≠ some (.cells cur 9 fr)) → w'.heap[k]? = w.heap[k]?
theorem KpS.trans {B g : Nat} {a b c : World} (h : KpS B g a b) (h' : KpS B g b c) : KpS B g a c :=
 ⟨h.bel.trans h'.bel, fun k hk hg hn => by
  have e := h.keep k hk hg hn
  exact (h'.keep k (Nat.lt_of_lt_of_le hk h.bel.size) hg (fun cur fr he => hn cur fr (e ▸ he))).trans e⟩
theorem KpS.of {B g : Nat} {a b : World} (h : Below a.heap.size a b) (hB : B ≤ a.heap.size) : KpS B g a b := ⟨h.mono hB, fun k hk _ _ => h.block k hk⟩
theorem noStr {w : World} {b : Nat} {cur : Array Value} (h : w.heap[b]? = some (.cells cur 89 (0, 0))) : ∀ cur' fr, w.heap[b]? ≠ some (.cells cur' 9 fr) := fun cur' fr e => by
 rw [h] at e
 injection e with e
 injection e with _ e _
 exact absurd e (by decide)
theorem SpL.ks {w w' : World} {B g : Nat} {S S' : Nat → Prop} {l : List Spn} {v : Value} (h : SpL w S l v) (hS : ∀ b, S b → S' b) (hg : ∀ b, S b → b ≠ g) (hk : KpS B g w w') : SpL w' S' l v :=
 h.keep hS fun b cur hb hh => hk.keep b (blk_lt hh) (hg b hb) (noStr hh)
/-- The lines so far. -/
structure BrW (w : World) (B g : Nat) (full : List UInt8) (W : Int) (v : Value) (ls : List (List UInt8)) : Prop where
 hB : B ≤ g
 blk : w.heap[g]? = some (.cells #[.string (BA full), .int .i64 W, v] 97 (0, 0))
 own : w.ownsRow (g + 1) 9 1 v ls.length (strC ls)
section
variable {w w' : World} {B g : Nat} {full : List UInt8} {W : Int} {v : Value} {ls : List (List UInt8)}
theorem BrW.lt (h : BrW w B g full W v ls) : g < w.heap.size := blk_lt h.blk
theorem BrW.c (h : BrW w B g full W v ls) : w.cell? ⟨g, 0, none⟩ = some (.string (BA full)) ∧ w.cell? ⟨g, 1, none⟩ = some (.int .i64 W) ∧ w.cell? ⟨g, 2, none⟩ = some v := by
 refine ⟨?_, ?_, ?_⟩ <;> (rw [cell_of_row _ _ _ _ _ _ h.blk]; rfl)
theorem BrW.keep (h : BrW w B g full W v ls) (hb : Below w.heap.size w w') : BrW w' B g full W v ls :=
 ⟨h.hB, (hb.block g h.lt).trans h.blk, own_keep h.own fun k hk => hb.block k (own_lt h.own k hk).2⟩
theorem BrW.shape (h : BrW w B g full W v ls) : ∃ A c, v = .slice A ls.length c := by
 rcases h.own.2 with ⟨rfl, h0⟩ | ⟨r, cap, cur, rfl, _⟩
 · exact ⟨none, 0, by rw [h0]⟩
 · exact ⟨_, _, rfl⟩
theorem BrW.app {w3 w4 : World} {v' : Value} {x : List UInt8} (h : BrW w B g full W v ls) (h3 : Below w.heap.size w w3) (h4 : w4.ownsRow (g + 1) 9 1 v' (ls.length + 1) (strC ls ++ [.string (BA x)])) (hg : w3.grownBy w4 v.ownBlock) :
 (w4.heap[g]? = some (.cells #[.string (BA full), .int .i64 W, v] 97 (0, 0))) ∧ BrW (w4.setCell ⟨g, 2, none⟩ v') B g full W v' (ls ++ [x]) ∧ KpS B g w (w4.setCell ⟨g, 2, none⟩ v') := by
 have hlt := own_lt h.own
 have hgl := h.lt
 have hs3 := h3.size
 have hB := h.hB
 have hgb : w4.heap[g]? = some (.cells #[.string (BA full), .int .i64 W, v] 97 (0, 0)) := ((hg.block g (by omega) (fun e => by have := (hlt g e.symm).1; omega)).trans (h3.block g hgl)).trans h.blk
 refine ⟨hgb, ⟨h.hB, ?_, ?_⟩, ⟨?_, fun k hk hkg hn => ?_⟩⟩
 · simp [World.setCell, Array.getElem?_modify, hgb]
 · rw [List.length_append, strC_app]
   exact own_keep h4 fun k hk => Below.heap_setCell w4 ⟨g, 2, none⟩ _ k (show k ≠ g by have := (own_lt h4 k hk).1; omega)
 · exact (((h3.mono (by omega)).grown hg (by omega) (fun k hk => by have := (hlt k hk).1; omega))).setCell (p := ⟨g, 2, none⟩) (show B ≤ g from hB) v'
 · refine (Below.heap_setCell w4 ⟨g, 2, none⟩ _ k (show k ≠ g from hkg)).trans ((hg.block k (by omega) (fun e => ?_)).trans (h3.block k hk))
   obtain ⟨cur, hh⟩ := own_blk h.own e.symm
   exact hn cur _ hh
end
theorem own_shape {w : World} {B : Nat} {e : TypeId} {size n : Nat} {v : Value} {xs : List Value} (h : w.ownsRow B e size v n xs) : ∃ A k c, v = .slice A k c := by
 rcases h.2 with ⟨rfl, _⟩ | ⟨r, cap, cur, rfl, _⟩
 · exact ⟨none, 0, 0, rfl⟩
 · exact ⟨_, _, _, rfl⟩
theorem infoSt : ∃ i, Tryz.prog.info? 9 = some i ∧ i.zero = some (.string ⟨#[]⟩) ∧ i.size = 1 ∧ i.bytes = 16 := info_of (P := Tryz.prog) (t := 9) (z := .string ⟨#[]⟩) (a := 1) (b := 16) (by kernel_rfl)
theorem ext_seg {full t : List UInt8} {s e : Nat} (he : e = s + t.length) (hseg : (full.drop s).take t.length = t) : (BA full).extract s e = BA t := by
 have h := la_ext (BA full) s e
 have e2 : e - s = t.length := by omega
 rw [LA_BA, e2, hseg] at h
 have h2 : LA ((BA full).extract s e) = t := h
 rw [← h2, BA_LA]
/-- A span's box. -/
theorem SpB.newU (w : World) (x y z : Value) : SpB (w.alloc (.cells #[x, y, z] 89)) w.heap.size x y z := heap_alloc_new _ _
theorem addWhole (w : World) (B g : Nat) (full : List UInt8) (W : Int) (v : Value) (ls : List (List UInt8)) (h : BrW w B g full W v ls) (s e : Nat) (A : Option Addr) (n c : Nat) (bf t : List UInt8) (he : e = s + t.length) (hle : e ≤ full.length) (hseg : (full.drop s).take t.length = t)
 (hcase : (t.length : Int) ≤ W - bf.length ∨ n < 2) (hfull : full.length ≤ 100000000) (hbf : bf.length ≤ 1000000) (hls : ls.length ≤ 1000000) (hn : n ≤ 1000000) :
 Calls Tryz.prog 55 #[.pointer (some ⟨g, 0, none⟩), .agg #[.int .i64 (s : Int), .int .i64 (e : Int), .slice A n c], .string (BA bf)] w (fun r w' => r = .returned (.tuple #[]) ∧ (∃ v', BrW w' B g full W v' (ls ++ [bf ++ t])) ∧ KpS B g w w') := by
 have hx := ext_seg he hseg
 have zb : (BA bf).size = bf.length := BA_size bf
 have zt : (BA t).size = t.length := BA_size t
 have zf : (BA full).size = full.length := BA_size full
 have hcat : BA bf ++ BA t = BA (bf ++ t) := (BA_app3 bf t).symm
 have ht8 : t.length ≤ 100000000 := by omega
 have H := qh9 h
 have hg := h.lt
 have S0 := qh9 (SpB.newU w (.int .i64 (s : Int)) (.int .i64 (e : Int)) (.slice A n c))
 have HW := qh9 (below_al w (.cells #[.int .i64 (s : Int), .int .i64 (e : Int), .slice A n c] 89))
 have HE := qh9 he
 have k1 : (0 : Int) ≤ (s : Int) := by omega
 have k2 : (s : Int) ≤ (e : Int) := by omega
 have k3 : (e : Int) ≤ ((BA full).size : Int) := by rw [zf]; omega
 have HCAT := qh9 hcat
 have HX := qh9 hx
 obtain ⟨i0, hi0, hz0, hz1, hz2⟩ := infoSt
 have HI0 := qh9 hi0
 have HZ0 := qh9 hz0
 have HZ1 := qh9 hz1
 have HZ2 := qh9 hz2
 clear hi0 hz0 hz1 hz2 hcat hx h hseg he
 go_enter Tryz.func55, Tryz.ntmps55
 go_upto_region 1 with fail
 generalize w.alloc (.cells #[.int .i64 (s : Int), .int .i64 (e : Int), .slice A n c] 89) = W1 at S0 HW ⊢
 have H1 := qh9 (H.out.keep HW.out)
 obtain ⟨b0, b1, b2⟩ := H1.out.c
 obtain ⟨s0, s1, s2⟩ := S0.out.c
 go_wp2_with fail
 go_quiet (fail)
 rw [HX.out]
 have hq := belDN W1 nq
 replace H1 := qh9 (H1.out.keep hq)
 replace S0 := qh9 (S0.out.keep hq)
 replace HW := qc9 HW hq
 clear b0 b1 b2 s0 s1 s2 hq k1 k2 k3 HX
 generalize W1.drewN nq = W2 at H1 S0 HW ⊢
 obtain ⟨A', c', rfl⟩ := H1.out.shape
 have H2 := qh9 H1.out
 obtain ⟨b0, b1, b2⟩ := H1.out.c
 obtain ⟨s0, s1, s2⟩ := S0.out.c
 have HLL : Hid (strC (ls ++ [bf ++ t]) = strC ls ++ [.string (BA (bf ++ t))]) := strC_app ls [bf ++ t]
 have hcat := HCAT.out
 have HLN := qh9 zb
 obtain ⟨N, hN⟩ : ∃ N, ls.length = N := ⟨_, rfl⟩
 have HN := qh9 hN
 have own3 := qh9 (H1.out.keep (below_al W2 (.cells #[.string (BA bf ++ BA t)] 9))).own
 have HAP : Hid (∀ v' w4, w4.ownsRow (g + 1) 9 1 v' (N + 1) (strC ls ++ [.string (BA bf ++ BA t)]) → (W2.alloc (.cells #[.string (BA bf ++ BA t)] 9)).grownBy w4 (Value.slice A' ls.length c').ownBlock → _ ∧ _ ∧ _) := fun v' w4 h4 hg4 => H1.out.app (v' := v') (w4 := w4) (x := bf ++ t) (below_al W2 (.cells #[.string (BA bf ++ BA t)] 9)) (by rw [hN, ← hcat]; exact h4) hg4
 have HNEWS : Hid (∀ j u, [Value.string (BA bf ++ BA t)][j]? = some u → (W2.alloc (.cells #[.string (BA bf ++ BA t)] 9)).cell? ((⟨W2.heap.size, 0, none⟩ : Addr).add j) = some u) := cell_one_new _ _ _
 have HONE : Hid (∀ u ∈ [Value.string (BA bf ++ BA t)], u.oneCell' = true) := fun u hu => by
  rw [List.mem_singleton] at hu
  subst hu
  rfl
 have hs3 : g + 1 ≤ (W2.alloc (.cells #[.string (BA bf ++ BA t)] 9)).heap.size := by
  have := H1.out.lt
  simp only [World.size_alloc]
  omega
 rw [hN] at own3 HAP b2 hls
 have zc : (BA bf).size + (BA t).size ≤ 200000000 := by omega
 have hcs : ((BA bf).size : Int) + ((BA t).size : Int) ≤ W ∨ n < 2 := by rw [zb, zt]; omega
 clear hcat HCAT hN hcase zf hle HE
 generalize BA bf = sb at *
 generalize BA t = st at *
 by_cases hc : (sb.size : Int) + (st.size : Int) ≤ W
 all_goals
  first
   | skip
  first
   | (have hn2 : ¬ (sb.size : Int) + (st.size : Int) ≤ W := hc
      have hn3 : (n : Int) < 2 := by omega)
   | skip
  go_wp2_with (at_builtin; refine wpList_append_own_at _ rfl (.tmp 39) (.tmp 43) _ rfl (g + 1) 9 i0 _ 1 16 Tryz.underlying42 HI0.out HZ0.out HZ1.out HZ2.out rfl (by omega) (.slice A' N c') N (strC ls) rfl own3.out ⟨W2.heap.size, 0, none⟩ 1 1 [.string (sb ++ st)] rfl rfl HNEWS.out HONE.out (by simp only [maxLen]; omega) (by omega) hs3 ?_; intro v4 w4 hown4 hg4 hnil4 hat4; have hap := HAP.out v4 w4 hown4 hg4; have hgb := hap.1; have HF := qh9 hap.2; have f2 : w4.frozen? ⟨g, 2, none⟩ = false := (by simp [World.frozen?, hgb]); have d2 : w4.cell? ⟨g, 2, none⟩ = some (.slice A' N c') := (by rw [cell_of_row _ _ _ _ _ _ hgb]; rfl); obtain ⟨A4, n4, c4, rfl⟩ := own_shape hown4; clear hap hgb hown4 hg4 hnil4 hat4)
  refine bodyPost_ret (results_none rfl _ _ _) rfl ?_
  exact ⟨rfl, ⟨_, HF.out.1⟩, (KpS.of HW.out (by have := H.out.hB; omega)).trans HF.out.2⟩
end Go.Proofs.YtlmnjelideegnaaGreatDoor
