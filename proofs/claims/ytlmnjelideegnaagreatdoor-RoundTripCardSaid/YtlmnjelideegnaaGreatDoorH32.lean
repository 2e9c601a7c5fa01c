import Derived.Test.YtlmnjelideegnaaGreatDoorBl
import Derived.Test.YtlmnjelideegnaaGreatDoorH29
import Derived.Test.YtlmnjelideegnaaGreatDoorH31
import Derived.Test.YtlmnjelideegnaaGreatDoorH17
import Derived.Test.YtlmnjelideegnaaGreatDoorH30
import Derived.Test.YtlmnjelideegnaaGreatDoorH18
import Derived.Test.YtlmnjelideegnaaGreatDoorH26
import Derived.BigRegion
import Derived.IntWalk
import Derived.Test.YtlmnjelideegnaaGreatDoorH24
import Derived.Test.YtlmnjelideegnaaGreatDoorH25
import Derived.Deep.RegionHeld3
import Derived.Test.YtlmnjelideegnaaGreatDoorH28
import Derived.Test.YtlmnjelideegnaaGreatDoorH19
namespace Go.Proofs.YtlmnjelideegnaaGreatDoor
open Go Go.RowKit
set_option linter.unusedVariables false
set_option maxHeartbeats 32000000
set_option maxRecDepth 100000
theorem packages6 (w : World) : Calls Tryz.prog 13 #[] w (fun e w' => ∃ x, e = .returned x ∧ Sy.PgV w' userM x ∧ Below w.heap.size w w') := by
 go_enter Tryz.func13, Tryz.ntmps13
 go_wp2_with fail
 refine (initialR5 _).mono ?_
 rintro e w1 ⟨x, rfl, hx, hb⟩
 have HX := qh9 hx
 have HB := qh9 hb
 clear hx hb
 go_wp2_with fail
 refine (lispO ⟨#[99, 97, 114]⟩ _).mono ?_
 rintro e w2 ⟨rfl, hb⟩
 replace HX := qh9 (HX.out.keep hb)
 replace HB := qc9 HB hb
 clear hb
 go_wp2_with fail
 refine (lispO ⟨#[110, 105, 108]⟩ _).mono ?_
 rintro e w3 ⟨rfl, hb⟩
 replace HX := qh9 (HX.out.keep hb)
 replace HB := qc9 HB hb
 clear hb
 go_wp2_with fail
 refine (lispO ⟨#[116]⟩ _).mono ?_
 rintro e w4 ⟨rfl, hb⟩
 replace HX := qh9 (HX.out.keep hb)
 replace HB := qc9 HB hb
 clear hb
 go_wp2_with fail
 refine (defR w4 x HX.out).mono ?_
 rintro e w5 ⟨y, rfl, hy, hb⟩
 have HY := qh9 hy
 replace HB := qh9 (chain2 HB.out (chain2 (below_al w4 (.cells #[.string (BA lispB), .string ⟨#[99, 97, 114]⟩, .string (BA lispB), .string ⟨#[110, 105, 108]⟩, .string (BA lispB), .string ⟨#[116]⟩] 23)) hb (Nat.le_refl _)) (Nat.le_refl _))
 clear hy hb
 go_wp2
 go_ret
 exact ⟨y, rfl, HY.out, HB.out⟩
/-- The three packages of the statements. -/
def whereB (k : Nat) : ByteArray := [⟨#[117, 115, 101, 114]⟩, ⟨#[108, 105, 115, 112]⟩, ⟨#[110, 111, 110, 101]⟩].getD k ⟨#[]⟩
theorem where6 (n : Int) (w : World) (hn : -9223372036854775808 ≤ n) (hn' : n ≤ 9223372036854775807) :
 Calls Tryz.prog 14 #[.int .i64 n] w (RetTU w (whereB (n % 3).toNat)) := by
 have C := qh9 (fun X => modO n 3 X hn hn' (by omega) (by omega))
 obtain ⟨k, hk⟩ : ∃ k : Nat, n % 3 = (k : Int) := ⟨(n % 3).toNat, by omega⟩
 rw [hk] at C ⊢
 have h3 : k < 3 := by omega
 clear hk hn hn'
 match k, h3 with
 | 0, _ =>
  go_enter Tryz.func14, Tryz.ntmps14
  go_wp2_with fail
  with_reducible refine (C.out _).mono ?_
  rintro e w1 ⟨rfl, rfl⟩
  go_wp2
  go_ret
  exact ⟨rfl, below_al _ _⟩
 | 1, _ =>
  go_enter Tryz.func14, Tryz.ntmps14
  go_wp2_with fail
  with_reducible refine (C.out _).mono ?_
  rintro e w1 ⟨rfl, rfl⟩
  go_wp2
  go_ret
  exact ⟨rfl, below_al _ _⟩
 | 2, _ =>
  go_enter Tryz.func14, Tryz.ntmps14
  go_wp2_with fail
  with_reducible refine (C.out _).mono ?_
  rintro e w1 ⟨rfl, rfl⟩
  go_wp2
  go_ret
  exact ⟨rfl, below_al _ _⟩
/-- One half. -/
def hfU : Rat := quo (LA ⟨#[49]⟩) (LA ⟨#[50]⟩)
def aU : Ob := .sym lispB [97]
def inU : Ob := Ob.list [aU, .num hfU]
def oU : Ob := Ob.list [quoteO, inU]
theorem symF6 (s : ByteArray) (w : World) : Calls Tryz.prog 26 #[.agg #[.string (BA lispB), .string s]] w (fun e w' => e = .returned (.agg #[.int .i64 2, .string ⟨#[]⟩, .string ⟨#[]⟩, .string (BA lispB), .string s, .string ⟨#[]⟩, .slice none 0 0]) ∧ Below w.heap.size w w') :=
 (symO (BA lispB) s w NoB).mono fun e w' ⟨p, he, hp, hb⟩ => by
   have hpe : p = .slice none 0 0 := hp
   subst hpe
   refine ⟨he.trans ?_, hb⟩
   show Ending.returned (.agg #[.int .i64 2, .string ⟨#[]⟩, .string ⟨#[]⟩, .string (BA (LA (BA lispB))), .string (BA (LA s)), .string ⟨#[]⟩, .slice none 0 0]) = _
   rw [BA_LA, BA_LA]
theorem ratF6 (w : World) : Calls Tryz.prog 29 #[.string ⟨#[49]⟩, .string ⟨#[50]⟩] w (fun e w' => e = .returned (.agg #[.int .i64 1, .string (nt hfU), .string (dt hfU), .string ⟨#[]⟩, .string ⟨#[]⟩, .string ⟨#[]⟩, .slice none 0 0]) ∧ Below w.heap.size w w') :=
 (ratO ⟨#[49]⟩ ⟨#[50]⟩ w NoB (NoB.in w) (by decide) (by decide)).mono fun e w' ⟨p, he, hp, hb⟩ => by
   have hpe : p = .slice none 0 0 := hp
   subst hpe
   exact ⟨he, hb⟩
theorem obs2U {w : World} {S : Nat → Prop} {x y : Ob} {p q : Value} {g : Nat} {cs : Array Value} (hx : Pair w S x p) (hy : Pair w S y q) (hg : w.heap[g]? = some (.cells cs 39 (0, 0))) (hc : cs = (cellsO x p ++ cellsO y q).toArray) : ObsAt w S g 0 [x, y] := by
 subst hc
 have hl : (cellsO x p).length = 7 := cellsO_length _ _
 unfold ObsAt
 refine ⟨⟨p, hx, fun j u hj => ?_⟩, ?_⟩
 · have hj7 : j < 7 := by
    rcases Nat.lt_or_ge j 7 with h | h
    · exact h
    · rw [List.getElem?_eq_none (by omega)] at hj; cases hj
   rw [Nat.zero_add, cell_of_row _ _ _ _ _ _ hg, List.getElem?_toArray, List.getElem?_append_left (by omega)]
   exact hj
 · unfold ObsAt
   refine ⟨⟨q, hy, fun j u hj => ?_⟩, by unfold ObsAt; trivial⟩
   rw [cell_of_row _ _ _ _ _ _ hg, List.getElem?_toArray, List.getElem?_append_right (by omega), show 0 + 7 + j - (cellsO x p).length = j from by omega]
   exact hj
theorem list2U (x y : Ob) (p q : Value) (w : World) (cs : Array Value) (hc : cs = (cellsO x p ++ cellsO y q).toArray) (hx : Hd w x p) (hy : Hd w y q) :
 Calls Tryz.prog 27 #[.slice (some ⟨w.heap.size, 0, none⟩) 2 2] (w.alloc (.cells cs 39)) (RetH (w.alloc (.cells cs 39)) (Ob.list [x, y])) := by
 have hb := below_al w (.cells cs 39)
 have hs : w.heap.size < (w.alloc (.cells cs 39)).heap.size := by simp
 exact (listO [x, y] (some ⟨w.heap.size, 0, none⟩) 2 (w.alloc (.cells cs 39)) (Has _) (In.has _) (Nat.le_refl 2) (show 2 ≤ 100000 by decide) (fun _ => ⟨_, 0, rfl, hs, obs2U (hx.below hb) (hy.below hb) (heap_alloc_new _ _) hc⟩)).mono fun _ _ h => h.h (In.has _)
theorem oU_pr : prV initM5 ⟨#[108, 105, 115, 112]⟩ oU true = (⟨#[39, 40, 97, 32, 49, 47, 50, 41]⟩, 0) := by kernel_rfl
theorem oU_bd : oU.bd 90 := ⟨(⟨.inl rfl, by decide, by decide⟩ : SyOk lispB [113, 117, 111, 116, 101]), ⟨⟨(⟨.inl rfl, by decide, by decide⟩ : SyOk lispB [97]), (bd_quo (k := 1) (Nat.le_refl _) (Nat.le_refl _) (by decide)).more (by decide), nil_ok⟩, nil_ok⟩⟩
theorem first6 (w : World) (hT : EscT w) : Calls Tryz.prog 10 #[] w (RetB w true) := by
 have HT := qh9 hT
 clear hT
 have HW : Hid (Below w.heap.size w w) := Below.refl _ _
 go_enter Tryz.func10, Tryz.ntmps10
 go_wp2_with fail
 with_reducible refine (lispO _ _).mono ?_
 rintro e w1 ⟨rfl, hb⟩
 replace HW := qc9 HW hb
 clear hb
 go_wp2_with fail
 with_reducible refine (symF6 _ _).mono ?_
 rintro e w2 ⟨rfl, hb⟩
 replace HW := qc9 HW hb
 clear hb
 go_wp2_with fail
 with_reducible refine (lispO _ _).mono ?_
 rintro e w3 ⟨rfl, hb⟩
 replace HW := qc9 HW hb
 clear hb
 go_wp2_with fail
 with_reducible refine (symF6 _ _).mono ?_
 rintro e w4 ⟨rfl, hb⟩
 replace HW := qc9 HW hb
 clear hb
 go_wp2_with fail
 with_reducible refine (ratF6 _).mono ?_
 rintro e w5 ⟨rfl, hb⟩
 replace HW := qc9 HW hb
 clear hb
 have K1 := qh9 (list2U aU (.num hfU) (.slice none 0 0) (.slice none 0 0) w5 #[.int .i64 2, .string ⟨#[]⟩, .string ⟨#[]⟩, .string (BA lispB), .string ⟨#[97]⟩, .string ⟨#[]⟩, .slice none 0 0, .int .i64 1, .string (nt hfU), .string (dt hfU), .string ⟨#[]⟩, .string ⟨#[]⟩, .string ⟨#[]⟩, .slice none 0 0] rfl rfl rfl)
 go_wp2_with fail
 replace HW := qh9 (chain2 HW.out (below_al w5 (.cells #[.int .i64 2, .string ⟨#[]⟩, .string ⟨#[]⟩, .string (BA lispB), .string ⟨#[97]⟩, .string ⟨#[]⟩, .slice none 0 0, .int .i64 1, .string (nt hfU), .string (dt hfU), .string ⟨#[]⟩, .string ⟨#[]⟩, .string ⟨#[]⟩, .slice none 0 0] 39)) (Nat.le_refl _))
 with_reducible refine K1.out.mono ?_
 rintro e w6 ⟨p1, rfl, hp1, hb⟩
 replace HW := qc9 HW hb
 clear hb K1
 rw [show vO (Ob.list [aU, .num hfU]) p1 = .agg #[.int .i64 4, .string ⟨#[]⟩, .string ⟨#[]⟩, .string ⟨#[]⟩, .string ⟨#[]⟩, .string ⟨#[]⟩, p1] from rfl]
 have K2 := qh9 (list2U quoteO inU (.slice none 0 0) p1 w6 #[.int .i64 2, .string ⟨#[]⟩, .string ⟨#[]⟩, .string (BA lispB), .string ⟨#[113, 117, 111, 116, 101]⟩, .string ⟨#[]⟩, .slice none 0 0, .int .i64 4, .string ⟨#[]⟩, .string ⟨#[]⟩, .string ⟨#[]⟩, .string ⟨#[]⟩, .string ⟨#[]⟩, p1] rfl rfl hp1)
 clear hp1
 go_wp2_with fail
 replace HW := qh9 (chain2 HW.out (below_al w6 (.cells #[.int .i64 2, .string ⟨#[]⟩, .string ⟨#[]⟩, .string (BA lispB), .string ⟨#[113, 117, 111, 116, 101]⟩, .string ⟨#[]⟩, .slice none 0 0, .int .i64 4, .string ⟨#[]⟩, .string ⟨#[]⟩, .string ⟨#[]⟩, .string ⟨#[]⟩, .string ⟨#[]⟩, p1] 39)) (Nat.le_refl _))
 with_reducible refine K2.out.mono ?_
 rintro e w7 ⟨p2, rfl, hp2, hb⟩
 replace HW := qc9 HW hb
 clear hb K2
 have HP := qh9 hp2
 have T1 := qh9 (aO_new w7 #[.int .i64 0, .string ⟨#[]⟩, .string ⟨#[]⟩, .string ⟨#[]⟩, .string ⟨#[]⟩, .string ⟨#[]⟩, .slice none 0 0])
 unfold aO at T1
 clear hp2
 go_upto_region 2 with ((with_reducible refine storeB (w1 := w7) (g := w7.heap.size) (b := Ob.list [quoteO, inU]) (p := p2) (.tmp 1) (.tmp 12) ?_ ?_ ?_ ?_ HP.out T1.out ?_); rfl; rfl; rfl; rfl; have P := Pt1U.new (w := w7) (o := Ob.list [quoteO, inU]) (p := p2) (z := #[.int .i64 0, .string ⟨#[]⟩, .string ⟨#[]⟩, .string ⟨#[]⟩, .string ⟨#[]⟩, .string ⟨#[]⟩, .slice none 0 0]); generalize World.setRow (w7.alloc (.cells #[.int .i64 0, .string ⟨#[]⟩, .string ⟨#[]⟩, .string ⟨#[]⟩, .string ⟨#[]⟩, .string ⟨#[]⟩, .slice none 0 0] 39)) w7.heap.size (cellsO (Ob.list [quoteO, inU]) p2).toArray = X1 at P ⊢; replace HW := qh9 (chain2 HW.out P.bel (Nat.le_refl _)); replace HP := qh9 (HP.out.below P.bel); have D0 := qh9 P.b0; clear P T1)
 generalize w7.heap.size = g at D0 ⊢
 have D1 : Hid (Bx X1 g #[.int .i64 4, .string ⟨#[]⟩, .string ⟨#[]⟩, .string ⟨#[]⟩, .string ⟨#[]⟩, .string ⟨#[]⟩, p2]) := D0.out
 have D2 : Hid (Bx X1.drew g #[.int .i64 4, .string ⟨#[]⟩, .string ⟨#[]⟩, .string ⟨#[]⟩, .string ⟨#[]⟩, .string ⟨#[]⟩, p2]) := D0.out
 obtain ⟨m0, m1, m2, m3, m4, m5, m6⟩ := Bx.c D1.out
 obtain ⟨n0, n1, n2, n3, n4, n5, n6⟩ := Bx.c D2.out
 have CP : Hid (∀ X x, Below X1.heap.size X1 X → Sy.PgV X initM5 x → Calls Tryz.prog 18 #[x, .string ⟨#[108, 105, 115, 112]⟩, .agg #[.int .i64 4, .string ⟨#[]⟩, .string ⟨#[]⟩, .string ⟨#[]⟩, .string ⟨#[]⟩, .string ⟨#[]⟩, p2]] X (RetTE X ⟨#[39, 40, 97, 32, 49, 47, 50, 41]⟩ 0)) := fun X x hX hx => by
  have := printP initM5 x ⟨#[108, 105, 115, 112]⟩ oU p2 true X hx (by decide) (by decide) (HT.out.keep (HW.out.trans (hX.mono HW.out.size))) (HP.out.below hX) 90 (by decide) oU_bd (by decide) (fun Y hY => validP oU p2 Y (Has Y) oU_bd (by decide) (In.has Y) ((HP.out.below hX).below hY))
  rw [oU_pr] at this
  exact this
 clear D0
 go_wp2_with fail
 go_region_with (first | (go_at_call 30; (with_reducible refine (initialR5 _).mono ?_); rintro e w8 ⟨x, rfl, hx, hb8⟩; have Z8 := qh9 ((Below.drew (Below.refl X1.heap.size X1)).trans hb8); obtain ⟨r0, r1, r2, r3, r4, r5, r6⟩ := Bx.c (D1.out.keep Z8.out); have HX := qh9 hx; clear hb8 hx) | (go_at_call 18; (with_reducible refine (CP.out _ _ Z8.out HX.out).mono ?_); rintro e w9 ⟨rfl, hb9⟩; have Z9 := qc9 Z8 hb9))
 all_goals (have HF := qh9 (chain2 HW.out Z9.out (Nat.le_refl _)); go_wp2; go_ret; exact ⟨rfl, HF.out⟩)







structure Pt1 (w X : World) (o : Ob) (p : Value) : Prop where
 bel : Below w.heap.size w X
 b0 : Bx X w.heap.size (cellsO o p).toArray


def Ad (w : World) (o : Ob) (b k : Nat) (p : Value) : Prop := At w (Has w) o b k p
/-- A raw tree in its box. -/
def RwB (W : World) (g : Nat) (a b c d : Value) : Prop := W.heap[g]? = some (.cells #[a, b, c, d] 35 (0, 0))
theorem RwB.keep {W W' : World} {g : Nat} {a b c d : Value} (h : RwB W g a b c d) (hb : Below W.heap.size W W') : RwB W' g a b c d := (hb.block g (blk_lt h)).trans h
theorem RwB.c {W : World} {g : Nat} {a b c d : Value} (h : RwB W g a b c d) : W.cell? ⟨g, 0, none⟩ = some a ∧ W.cell? ⟨g, 1, none⟩ = some b ∧ W.cell? ⟨g, 2, none⟩ = some c ∧ W.cell? ⟨g, 3, none⟩ = some d := by
 refine ⟨?_, ?_, ?_, ?_⟩ <;> (rw [cell_of_row _ _ _ _ _ _ h]; rfl)
theorem RetX.hU {w w' : World} {m : Nat} {e : Ending} (h : RetX w m e w') : ∃ o p, e = .returned (vO o p) ∧ Hd w' o p ∧ Below w.heap.size w w' ∧ OkO m o := by
 obtain ⟨o, p, h1, h2, h3, h4⟩ := h
 exact ⟨o, p, h1, h2.more (fun b hb => by rcases hb with hb | hb; exact hb.elim; exact hb.2), h3, h4⟩
theorem tkO_len (kp : List UInt8 → List UInt8 → List UInt8) : ∀ (m : Nat) (o : Ob), o.nodes ≤ m → (tkO kp o).length ≤ 3 * o.nodes ∧ (tkT kp o).length ≤ 3 * o.nodes := by
 intro m
 induction m with
 | zero => intro o h; have := o.nodes_pos; omega
 | succ m ih =>
  intro o hm
  cases o with
  | num q => exact ⟨by simp [tkO, Ob.nodes], by simp [tkT, Ob.nodes]⟩
  | str s => exact ⟨by simp [tkO, Ob.nodes], by simp [tkT, Ob.nodes]⟩
  | sym x y =>
   refine ⟨by simp [tkO, Ob.nodes], ?_⟩
   unfold tkT
   split <;> simp [Ob.nodes]
  | cons a d =>
   have hn : (Ob.cons a d).nodes = 1 + a.nodes + d.nodes := rfl
   obtain ⟨a1, _⟩ := ih a (by omega)
   obtain ⟨_, d2⟩ := ih d (by omega)
   have e2 : tkT kp (.cons a d) = tkO kp a ++ tkT kp d := rfl
   refine ⟨?_, by rw [e2, List.length_append]; omega⟩
   have main : (tkO kp (.cons a d)).length ≤ 1 + (tkO kp a).length + (tkT kp d).length ∨ ∃ x e, d = .cons x e ∧ (tkO kp (.cons a d)).length = 1 + (tkO kp x).length := by
    cases d with
    | cons x e =>
     by_cases hq : a = quoteO ∧ e = .nil
     · have e1 : tkO kp (.cons a (.cons x e)) = (4, [], [], []) :: tkO kp x := by
        have : tkO kp (.cons a (.cons x e)) = if a = quoteO ∧ e = .nil then (4, [], [], []) :: tkO kp x else (1, [], [], []) :: (tkO kp a ++ tkT kp (.cons x e)) := by rw [tkO]
        rw [this, if_pos hq]
       exact .inr ⟨x, e, rfl, by rw [e1, List.length_cons]; omega⟩
     · have e1 : tkO kp (.cons a (.cons x e)) = (1, [], [], []) :: (tkO kp a ++ tkT kp (.cons x e)) := by
        have : tkO kp (.cons a (.cons x e)) = if a = quoteO ∧ e = .nil then (4, [], [], []) :: tkO kp x else (1, [], [], []) :: (tkO kp a ++ tkT kp (.cons x e)) := by rw [tkO]
        rw [this, if_neg hq]
       exact .inl (by rw [e1, List.length_cons, List.length_append]; omega)
    | num q => exact .inl (by rw [tkO, List.length_cons, List.length_append]; omega)
    | str s => exact .inl (by rw [tkO, List.length_cons, List.length_append]; omega)
    | sym x y => exact .inl (by rw [tkO, List.length_cons, List.length_append]; omega)
   rcases main with h | ⟨x, e, rfl, h⟩
   · omega
   · have hd : (Ob.cons x e).nodes = 1 + x.nodes + e.nodes := rfl
     obtain ⟨x1, _⟩ := ih x (by omega)
     omega
theorem homeM_of {l : List Sy.Pg} : ∀ {o : Ob}, homeO l o = true → o.bd 90 → PrOkU l o
 | .num q, _, h => numOk_bd h
 | .str s, _, h => by
  have hs : s.length ≤ 2 * 90 + 20 := h
  exact hs
 | .sym x y, hh, h => ⟨symOk_of h, hh⟩
 | .cons a d, hh, h => by
  unfold homeO at hh
  rw [Bool.and_eq_true] at hh
  exact ⟨homeM_of hh.1 h.1, homeM_of hh.2 h.2⟩
/-- How long the text of a made object can be. -/
theorem prO_tx {nm : List UInt8 → List UInt8 → List UInt8} (hnm : ∀ p n, SyOk p n → n.length ≤ 8 → (nm p n).length ≤ 26) : ∀ (m : Nat) (o : Ob), o.nodes ≤ m → o.bd 10 → o.tx → (prO nm o).length ≤ 30 * o.nodes ∧ (prT nm o).length ≤ 30 * o.nodes + 4 := by
 intro m
 induction m with
 | zero => intro o h; have := o.nodes_pos; omega
 | succ m ih =>
  intro o hm hb hx
  have atom : ∀ o : Ob, o.isCons = false → o.nodes = 1 → (prO nm o).length ≤ 30 → (prO nm o).length ≤ 30 * o.nodes ∧ (prT nm o).length ≤ 30 * o.nodes + 4 := fun o hf h1 h => by
   rw [prT_atom nm hf, h1]
   refine ⟨by omega, ?_⟩
   split
   · simp
   · simp only [List.length_cons, List.length_append, List.length_nil]; omega
  cases o with
  | num q => exact atom (.num q) rfl rfl (by have := numS_len (show Bd 10 q from hb); show (numS q).length ≤ 30; omega)
  | str s => exact atom (.str s) rfl rfl (by have := escL_len 34 s; have h2 : s.length ≤ 12 := hx; show (escL 34 s).length ≤ 30; omega)
  | sym x y => exact atom (.sym x y) rfl rfl (by have := hnm x y hb hx; show (nm x y).length ≤ 30; omega)
  | cons a d =>
   have hn : (Ob.cons a d).nodes = 1 + a.nodes + d.nodes := rfl
   obtain ⟨a1, _⟩ := ih a (by omega) hb.1 hx.1
   obtain ⟨_, d2⟩ := ih d (by omega) hb.2 hx.2
   refine ⟨?_, ?_⟩
   · rw [prO_cons, hn]
     split
     · rename_i hq
       cases d with
       | num q => cases hq
       | str s => cases hq
       | sym x y => cases hq
       | cons x e' =>
        have hd : (Ob.cons x e').nodes = 1 + x.nodes + e'.nodes := rfl
        obtain ⟨x1, _⟩ := ih x (by omega) hb.2.1 hx.2.1
        show (prO nm x).length + 1 ≤ _
        omega
     · simp only [List.length_cons, List.length_append]
       omega
   · have e2 : prT nm (.cons a d) = 32 :: (prO nm a ++ prT nm d) := rfl
     rw [e2, hn]
     simp only [List.length_cons, List.length_append]
     omega
theorem nmU_len26 (l : List Sy.Pg) (cur : ByteArray) (p n : List UInt8) (h : SyOk p n) (h8 : n.length ≤ 8) : (nmU l cur p n).length ≤ 26 := by
 have := nmU_len l cur p n
 have : p.length ≤ 4 := by rcases h.1 with rfl | rfl <;> decide
 omega
theorem chk_home {l : List Sy.Pg} {cur : ByteArray} {o : Ob} {b : Bool} (h : chkV l cur o b = 0) : homeO l o = true := by
 unfold chkV at h
 split at h
 · split at h
   · rename_i h2
     rw [Bool.and_eq_true] at h2
     exact h2.2
   · cases h
 · cases h
/-- One answers the object, where its text is no longer than a source may be. -/
theorem one_back (l : List Sy.Pg) (cur : ByteArray) (o : Ob) (hp : PrOkU l o) (hn : o.nodes ≤ 201) (hz : (prO (nmU l cur) o).length ≤ 6000) : oneS l cur (BA (prO (nmU l cur) o)) = .ok o ∧ SmS (BA (prO (nmU l cur) o)) := by
 have hsz : (BA (prO (nmU l cur) o)).size ≤ 6000 := by rw [BA_size]; exact hz
 obtain ⟨ts, p, h1, h2, h3⟩ := print_read l cur o (BA (prO (nmU l cur) o)).size hp hn
 have hs : scanS (BA (prO (nmU l cur) o)) = .ok ts := by rw [scanS_small hsz, LA_BA]; exact h1
 have hl := (tkO_len (kpS l cur) o.nodes o (Nat.le_refl _)).1
 refine ⟨?_, ⟨by omega, fun ts' h => ?_⟩⟩
 · unfold oneS readS readL
   rw [hs]
   have e : (numK : Tk → Rat) = numT' := rfl
   rw [e]
   simp only
   rw [h2]
 · rw [hs] at h
   injection h with h
   subst h
   omega
/-- The same of a made object. -/
theorem one_made (l : List Sy.Pg) (cur : ByteArray) (o : Ob) (h : OkO 159 o) (hc : homeO l o = true) : oneS l cur (BA (prO (nmU l cur) o)) = .ok o ∧ SmS (BA (prO (nmU l cur) o)) :=
 one_back l cur o (homeM_of hc (Ob.bd_more (by decide) h.bd)) (by have := h.nodes; omega) (by
  have h1 := (prO_tx (nmU_len26 l cur) 159 o h.nodes h.bd h.tx).1
  have h2 := h.nodes
  omega)
theorem roundW (r : Rw) (r0 r1 r2 r3 : Value) (n : Int) (w : World) (hr : RawAt w (Has w) r [r0, r1, r2, r3]) (hT : EscT w) (ht : Tab w) (hn : -9223372036854775808 ≤ n) (hn' : n ≤ 9223372036854775807) :
 Calls Tryz.prog 6 #[.agg #[r0, r1, r2, r3], .int .i64 n] w (RetB w true) := by
 have HT := qh9 hT
 have RR := qh9 hr
 have HTB := qh9 ht
 have CF : Hid (∀ X, Below w.heap.size w X → Calls Tryz.prog 16 #[.agg #[r0, r1, r2, r3], .int .i64 40] X (fun e w' => e = .returned (.bool (few r 40)) ∧ Below X.heap.size X w')) := fun X h => fewO r [r0, r1, r2, r3] 40 X (Has w) (In.has w |>.later h.size) (RR.out.below (In.has w) h) (by decide) (by decide)
 have KO : Hid (few r 40 = true → ∀ X, Below w.heap.size w X → Calls Tryz.prog 17 #[.agg #[r0, r1, r2, r3]] X (RetX X 159)) := fun hf X h => by
  obtain ⟨hok, hcn⟩ := few_ok hf
  exact (objectO r [r0, r1, r2, r3] X (Has w) (In.has w |>.later h.size) (RR.out.below (In.has w) h) hok (HTB.out.below h)).mono fun _ _ hr => hr.le (by omega)
 generalize few r 40 = ff at CF KO
 clear hT hr ht
 go_enter Tryz.func6, Tryz.ntmps6
 go_upto_region 1 with fail
 have hr0 := qh9 (heap_alloc_new w (.cells #[r0, r1, r2, r3] 35))
 have HB := qh9 (below_al w (.cells #[r0, r1, r2, r3] 35))
 generalize w.alloc (.cells #[r0, r1, r2, r3] 35) = W at hr0 HB ⊢
 have BR : Hid (RwB W w.heap.size r0 r1 r2 r3) := hr0.out
 clear hr0
 go_wp2_with fail
 with_reducible refine (first6 W (HT.out.keep HB.out)).mono ?_
 rintro e w1 ⟨rfl, hb⟩
 replace BR := qh9 (BR.out.keep hb)
 replace HB := qc9 HB hb
 clear hb
 obtain ⟨c0, c1, c2, c3⟩ := BR.out.c
 go_wp2_with fail
 with_reducible refine (CF.out _ HB.out).mono ?_
 rintro e w2 ⟨rfl, hb⟩
 replace BR := qh9 (BR.out.keep hb)
 replace HB := qc9 HB hb
 clear hb c0 c1 c2 c3 CF
 cases ff with
 | false =>
  go_wp2
  go_ret
  exact ⟨rfl, HB.out⟩
 | true =>
  obtain ⟨c0, c1, c2, c3⟩ := BR.out.c
  go_wp2_with fail
  with_reducible refine (KO.out (by simp) _ HB.out).mono ?_
  intro e w3 hx
  obtain ⟨o, p, rfl, hp, hb, ok⟩ := RetX.hU hx
  replace HB := qc9 HB hb
  have HP := qh9 hp
  have OK := qh9 ok
  have T1 := qh9 (aO_new w3 #[.int .i64 0, .string ⟨#[]⟩, .string ⟨#[]⟩, .string ⟨#[]⟩, .string ⟨#[]⟩, .string ⟨#[]⟩, .slice none 0 0])
  unfold aO at T1
  clear hp ok hb c0 c1 c2 c3 BR KO RR HTB
  go_upto_region 6 with ((with_reducible refine storeB (w1 := w3) (g := w3.heap.size) (b := o) (p := p) (.tmp 5) (.tmp 16) ?_ ?_ ?_ ?_ HP.out T1.out ?_); rfl; rfl; rfl; rfl; have P := Pt1U.new (w := w3) (o := o) (p := p) (z := #[.int .i64 0, .string ⟨#[]⟩, .string ⟨#[]⟩, .string ⟨#[]⟩, .string ⟨#[]⟩, .string ⟨#[]⟩, .slice none 0 0]); generalize World.setRow (w3.alloc (.cells #[.int .i64 0, .string ⟨#[]⟩, .string ⟨#[]⟩, .string ⟨#[]⟩, .string ⟨#[]⟩, .string ⟨#[]⟩, .slice none 0 0] 39)) w3.heap.size (cellsO o p).toArray = X at P ⊢; replace HB := qh9 (chain2 HB.out P.bel (Nat.le_refl _)); replace HP := qh9 (HP.out.below P.bel); have D0 := qh9 P.b0; clear P T1)
  generalize w3.heap.size = gb at D0 ⊢
  obtain ⟨x0, x1, x2, x3, x4, x5, eo⟩ := cells7 o p
  have BO : Hid (Bx X gb #[x0, x1, x2, x3, x4, x5, p]) := by
   have := D0.out
   rwa [eo] at this
  have EV := qh9 (vO_cells eo)
  have BC : Hid (Bx X gb (cellsO o p).toArray) := D0.out
  clear D0 eo
  have CP : Hid (∀ X' y, Below X.heap.size X X' → Sy.PgV X' userM y → Calls Tryz.prog 18 #[y, .string (whereB (n % 3).toNat), .agg #[x0, x1, x2, x3, x4, x5, p]] X' (RetTE X' (prV userM (whereB (n % 3).toNat) o true).1 (prV userM (whereB (n % 3).toNat) o true).2)) := fun X' y hX hy => by
   have bd := Ob.bd_more (show 10 ≤ 90 by decide) OK.out.bd
   have := printP userM y (whereB (n % 3).toNat) o p true X' hy (by decide) (by decide) (HT.out.keep (HB.out.trans (hX.mono HB.out.size))) (HP.out.below hX) 90 (by decide) bd (by have := OK.out.nodes; omega) (fun Y hY => validP o p Y (Has Y) bd (by have := OK.out.nodes; omega) (In.has Y) ((HP.out.below hX).below hY))
   rwa [EV.out] at this
  have CO : Hid ((prV userM (whereB (n % 3).toNat) o true).2 = 0 → ∀ X' y, Sy.PgV X' userM y → Calls Tryz.prog 22 #[y, .string (whereB (n % 3).toNat), .string (prV userM (whereB (n % 3).toNat) o true).1] X' (OutOn X' (.ok o))) := fun h X' y hy => by
   have hc : chkV userM (whereB (n % 3).toNat) o true = 0 := by
    unfold prV at h
    split at h
    · assumption
    · exact h
   obtain ⟨h1, h2⟩ := one_made userM (whereB (n % 3).toNat) o OK.out (chk_home hc)
   have e : (prV userM (whereB (n % 3).toNat) o true).1 = BA (prO (nmU userM (whereB (n % 3).toNat)) o) := by
    unfold prV
    rw [if_pos hc]
   rw [e]
   have := onePr (BA (prO (nmU userM (whereB (n % 3).toNat)) o)) (whereB (n % 3).toNat) userM y X' hy userB5 h2
   rwa [h1] at this
  obtain ⟨V, hV⟩ : ∃ V, prV userM (whereB (n % 3).toNat) o true = V := ⟨_, rfl⟩
  rw [hV] at CP CO
  have hc3 : V.2 = 0 ∨ V.2 ≠ 0 := by omega
  obtain ⟨Vs, Vn⟩ := V
  clear hV OK
  have D0 := qh9 (BO.out.keep ((Below.refl X.heap.size X).drew))
  obtain ⟨m0, m1, m2, m3, m4, m5, m6⟩ := Bx.c BO.out
  obtain ⟨n0, n1, n2, n3, n4, n5, n6⟩ := Bx.c D0.out
  go_wp2_with fail
  go_region_held3 (fun W' => W'.cell? ⟨gb, 0, none⟩ = some x0 ∧ W'.cell? ⟨gb, 1, none⟩ = some x1 ∧ W'.cell? ⟨gb, 2, none⟩ = some x2 ∧ W'.cell? ⟨gb, 3, none⟩ = some x3 ∧ W'.cell? ⟨gb, 4, none⟩ = some x4 ∧ W'.cell? ⟨gb, 5, none⟩ = some x5 ∧ W'.cell? ⟨gb, 6, none⟩ = some p) (go_keep) ((first | (go_at_call 13; refine (packages6 _).mono ?_; rintro e x0a ⟨y0, rfl, hy, hb⟩; have HY0 := qh9 hy; have HR0 := qh9 ((Below.drew (Below.refl X.heap.size X)).trans hb); obtain ⟨q0, q1, q2, q3, q4, q5, q6⟩ := Bx.c (BO.out.keep HR0.out); clear hy hb) | (go_at_call 14; refine (where6 n _ hn hn').mono ?_; rintro e x0c ⟨rfl, hb⟩; have HZ0 := qh9 (HY0.out.keep hb); have HQ0 := qc9 HR0 hb; obtain ⟨r0, r1, r2, r3, r4, r5, r6⟩ := Bx.c (BO.out.keep HQ0.out); clear hb) | (go_at_call 18; refine (CP.out x0c y0 HQ0.out HZ0.out).mono ?_; rintro e W0 ⟨rfl, hb⟩; have HG0 := qc9 HQ0 hb; obtain ⟨t0, t1, t2, t3, t4, t5, t6⟩ := Bx.c (BO.out.keep HG0.out); clear hb)))
  replace BO := qh9 (BO.out.keep HG0.out)
  replace BC := qh9 (BC.out.keep HG0.out)
  replace HP := qh9 (HP.out.below HG0.out)
  replace HB := qh9 (chain2 HB.out HG0.out (Nat.le_refl _))
  try clear m0 m1 m2 m3 m4 m5 m6 n0 n1 n2 n3 n4 n5 n6
  clear CP
  by_cases hv0 : Vn = 0
  · subst hv0
    have C1 := qh9 (CO.out rfl)
    clear CO hc3
    go_wp2_with fail
    with_reducible refine (packages6 _).mono ?_
    rintro e w4 ⟨y1, rfl, hy, hb⟩
    replace BO := qh9 (BO.out.keep hb)
    replace BC := qh9 (BC.out.keep hb)
    replace HP := qh9 (HP.out.below hb)
    replace HB := qc9 HB hb
    have HY := qh9 hy
    clear hb hy
    go_wp2_with fail
    with_reducible refine (where6 n _ hn hn').mono ?_
    rintro e w5 ⟨rfl, hb⟩
    replace BO := qh9 (BO.out.keep hb)
    replace BC := qh9 (BC.out.keep hb)
    replace HP := qh9 (HP.out.below hb)
    replace HB := qc9 HB hb
    replace HY := qh9 (HY.out.keep hb)
    clear hb
    go_wp2_with fail
    with_reducible refine (C1.out _ y1 HY.out).mono ?_
    rintro e w6 ⟨hb, q, rfl, hq⟩
    replace BO := qh9 (BO.out.keep hb)
    replace BC := qh9 (BC.out.keep hb)
    replace HP := qh9 (HP.out.below hb)
    replace HB := qc9 HB hb
    have HQ : Hid (Hd w6 o q) := hq.more (fun b h => h.2)
    clear hb hq C1 HY
    have A2 : Hid (Below w6.heap.size w6 ((w6.alloc (.cells #[.int .i64 0, .string ⟨#[]⟩, .string ⟨#[]⟩, .string ⟨#[]⟩, .string ⟨#[]⟩, .string ⟨#[]⟩, .slice none 0 0] 39)).alloc (.cells #[.int .i64 0, .int .i64 0] 46))) := (below_al w6 _).trans ((below_al _ _).mono (by simp))
    have B2 : Hid (Bx ((w6.alloc (.cells #[.int .i64 0, .string ⟨#[]⟩, .string ⟨#[]⟩, .string ⟨#[]⟩, .string ⟨#[]⟩, .string ⟨#[]⟩, .slice none 0 0] 39)).alloc (.cells #[.int .i64 0, .int .i64 0] 46)) w6.heap.size #[.int .i64 0, .string ⟨#[]⟩, .string ⟨#[]⟩, .string ⟨#[]⟩, .string ⟨#[]⟩, .string ⟨#[]⟩, .slice none 0 0]) := Bx.keep (aO_new w6 _) (below_al _ _)
    have E2 : Hid (EB ((w6.alloc (.cells #[.int .i64 0, .string ⟨#[]⟩, .string ⟨#[]⟩, .string ⟨#[]⟩, .string ⟨#[]⟩, .string ⟨#[]⟩, .slice none 0 0] 39)).alloc (.cells #[.int .i64 0, .int .i64 0] 46)) (w6.heap.size + 1) (.int .i64 0) (.int .i64 0)) := heap_alloc2_new w6 _ _
    have E3 : Hid (EB (((w6.alloc (.cells #[.int .i64 0, .string ⟨#[]⟩, .string ⟨#[]⟩, .string ⟨#[]⟩, .string ⟨#[]⟩, .string ⟨#[]⟩, .slice none 0 0] 39)).alloc (.cells #[.int .i64 0, .int .i64 0] 46)).setRow w6.heap.size (cellsO o q).toArray) (w6.heap.size + 1) (.int .i64 0) (.int .i64 0)) := E2.out.row (by omega) _
    have B4 : Hid (Bx ((((w6.alloc (.cells #[.int .i64 0, .string ⟨#[]⟩, .string ⟨#[]⟩, .string ⟨#[]⟩, .string ⟨#[]⟩, .string ⟨#[]⟩, .slice none 0 0] 39)).alloc (.cells #[.int .i64 0, .int .i64 0] 46)).setRow w6.heap.size (cellsO o q).toArray).setRow (w6.heap.size + 1) #[.int .i64 0, .int .i64 0]) w6.heap.size (cellsO o q).toArray) := (setRow_other _ _ _ _ (by omega)).trans (setRow_heap _ _ _ _ _ _ B2.out)
    have E4 : Hid (EB ((((w6.alloc (.cells #[.int .i64 0, .string ⟨#[]⟩, .string ⟨#[]⟩, .string ⟨#[]⟩, .string ⟨#[]⟩, .string ⟨#[]⟩, .slice none 0 0] 39)).alloc (.cells #[.int .i64 0, .int .i64 0] 46)).setRow w6.heap.size (cellsO o q).toArray).setRow (w6.heap.size + 1) #[.int .i64 0, .int .i64 0]) (w6.heap.size + 1) (.int .i64 0) (.int .i64 0)) := setRow_heap _ _ _ _ _ _ E3.out
    have hb : Below w6.heap.size w6 ((((w6.alloc (.cells #[.int .i64 0, .string ⟨#[]⟩, .string ⟨#[]⟩, .string ⟨#[]⟩, .string ⟨#[]⟩, .string ⟨#[]⟩, .slice none 0 0] 39)).alloc (.cells #[.int .i64 0, .int .i64 0] 46)).setRow w6.heap.size (cellsO o q).toArray).setRow (w6.heap.size + 1) #[.int .i64 0, .int .i64 0]) := below_setRow (below_setRowO A2.out (Nat.le_refl _) _) (by omega) _
    replace BO := qh9 (BO.out.keep hb)
    replace BC := qh9 (BC.out.keep hb)
    replace HP := qh9 (HP.out.below hb)
    replace HB := qc9 HB hb
    have HQ2 := qh9 (HQ.out.below hb)
    clear hb A2
    go_upto_region 10 with (first | ((with_reducible refine storeB (w1 := w6) (g := w6.heap.size) (b := o) (p := q) (.tmp 8) (.tmp 33) ?_ ?_ ?_ ?_ HQ.out B2.out ?_); rfl; rfl; rfl; rfl) | ((with_reducible refine EB.store (.tmp 9) (.tmp 34) ?_ ?_ (w6.heap.size + 1) 0 0 (.int .i64 0) (.int .i64 0) ?_ ?_ E3.out ?_); rfl; rfl; rfl; rfl))
    clear B2 E2 E3 HQ
    generalize (((w6.alloc (.cells #[.int .i64 0, .string ⟨#[]⟩, .string ⟨#[]⟩, .string ⟨#[]⟩, .string ⟨#[]⟩, .string ⟨#[]⟩, .slice none 0 0] 39)).alloc (.cells #[.int .i64 0, .int .i64 0] 46)).setRow w6.heap.size (cellsO o q).toArray).setRow (w6.heap.size + 1) #[.int .i64 0, .int .i64 0] = X2 at B4 E4 HQ2 BO BC HP HB ⊢
    have ec := E4.out.c0
    have KE : Hid (Calls Tryz.prog 23 #[vO o q, vO o p] X2 (RetB X2 true)) := by
     have := equalO o o q p X2 (Has X2) (In.has X2) HQ2.out HP.out
     rwa [decide_eq_true rfl] at this
    go_wp2_with (first | ((with_reducible refine loadG (.tmp 8) ?_ ?_ ?_ B4.out ?_); rfl; rfl; rfl) | ((with_reducible refine loadG (.tmp 5) ?_ ?_ ?_ BC.out ?_); rfl; rfl; rfl))
    with_reducible refine KE.out.mono ?_
    rintro e w7 ⟨rfl, hb⟩
    have HF := qc9 HB hb
    go_wp2
    go_ret
    exact ⟨rfl, HF.out⟩
  · have hv1 : (Vn == 0) = false := by rw [beq_eq_false_iff_ne]; exact hv0
    go_wp2
    go_ret
    exact ⟨rfl, HB.out⟩
/-- RoundTrip, whatever the input. -/
theorem round_walk (r : Rw) (r0 r1 r2 r3 : Value) (n : Int) (w : World) (hr : RawAt w (Has w) r [r0, r1, r2, r3]) (hn : I64 n) (hT : EscT w) (ht : Tab w) :
 Calls Tryz.prog 6 #[.agg #[r0, r1, r2, r3], .int .i64 n] w (RetB w true) :=
 roundW r r0 r1 r2 r3 n w hr hT ht hn.1 hn.2
end Go.Proofs.YtlmnjelideegnaaGreatDoor
