import Derived.Test.YtlmnjelideegnaaGreatDoorAl
import Derived.Test.YtlmnjelideegnaaGreatDoorG29
import Derived.Test.YtlmnjelideegnaaGreatDoorG32
import Derived.Test.YtlmnjelideegnaaGreatDoorG17
import Derived.Test.YtlmnjelideegnaaGreatDoorG31
import Derived.Test.YtlmnjelideegnaaGreatDoorG18
namespace Go.Proofs.YtlmnjelideegnaaGreatDoor
open Go Go.RowKit
set_option linter.unusedVariables false
set_option maxHeartbeats 32000000
set_option maxRecDepth 100000
theorem packages6 (w : World) : Calls Tryz.prog 13 #[] w (fun e w' => ∃ x, e = .returned x ∧ Sy.PgV w' userM x ∧ Below w.heap.size w w') := by
 go_enter Tryz.func13, Tryz.ntmps13
 go_wp2_with fail
 refine (initialR5 _).mono ?_
 rintro e w1 ⟨x, rfl, hx, hb⟩
 have HX := qh9 hx
 have HB := qh9 hb
 clear hx hb
 go_wp2_with fail
 refine (lispO ⟨#[99, 97, 114]⟩ _).mono ?_
 rintro e w2 ⟨rfl, hb⟩
 replace HX := qh9 (HX.out.keep hb)
 replace HB := qc9 HB hb
 clear hb
 go_wp2_with fail
 refine (lispO ⟨#[110, 105, 108]⟩ _).mono ?_
 rintro e w3 ⟨rfl, hb⟩
 replace HX := qh9 (HX.out.keep hb)
 replace HB := qc9 HB hb
 clear hb
 go_wp2_with fail
 refine (lispO ⟨#[116]⟩ _).mono ?_
 rintro e w4 ⟨rfl, hb⟩
 replace HX := qh9 (HX.out.keep hb)
 replace HB := qc9 HB hb
 clear hb
 go_wp2_with fail
 refine (defR w4 x HX.out).mono ?_
 rintro e w5 ⟨y, rfl, hy, hb⟩
 have HY := qh9 hy
 replace HB := qh9 (chain2 HB.out (chain2 (below_al w4 (.cells #[.string (BA lispB), .string ⟨#[99, 97, 114]⟩, .string (BA lispB), .string ⟨#[110, 105, 108]⟩, .string (BA lispB), .string ⟨#[116]⟩] 23)) hb (Nat.le_refl _)) (Nat.le_refl _))
 clear hy hb
 go_wp2
 go_ret
 exact ⟨y, rfl, HY.out, HB.out⟩
/-- The three packages of the statements. -/
def whereB (k : Nat) : ByteArray := [⟨#[117, 115, 101, 114]⟩, ⟨#[108, 105, 115, 112]⟩, ⟨#[110, 111, 110, 101]⟩].getD k ⟨#[]⟩
theorem where6 (n : Int) (w : World) (hn : -9223372036854775808 ≤ n) (hn' : n ≤ 9223372036854775807) :
 Calls Tryz.prog 14 #[.int .i64 n] w (RetTU w (whereB (n % 3).toNat)) := by
 have C := qh9 (fun X => modO n 3 X hn hn' (by omega) (by omega))
 obtain ⟨k, hk⟩ : ∃ k : Nat, n % 3 = (k : Int) := ⟨(n % 3).toNat, by omega⟩
 rw [hk] at C ⊢
 have h3 : k < 3 := by omega
 clear hk hn hn'
 match k, h3 with
 | 0, _ =>
  go_enter Tryz.func14, Tryz.ntmps14
  go_wp2_with fail
  with_reducible refine (C.out _).mono ?_
  rintro e w1 ⟨rfl, rfl⟩
  go_wp2
  go_ret
  exact ⟨rfl, below_al _ _⟩
 | 1, _ =>
  go_enter Tryz.func14, Tryz.ntmps14
  go_wp2_with fail
  with_reducible refine (C.out _).mono ?_
  rintro e w1 ⟨rfl, rfl⟩
  go_wp2
  go_ret
  exact ⟨rfl, below_al _ _⟩
 | 2, _ =>
  go_enter Tryz.func14, Tryz.ntmps14
  go_wp2_with fail
  with_reducible refine (C.out _).mono ?_
  rintro e w1 ⟨rfl, rfl⟩
  go_wp2
  go_ret
  exact ⟨rfl, below_al _ _⟩
/-- One half. -/
def hfU : Rat := quo (LA ⟨#[49]⟩) (LA ⟨#[50]⟩)
def aU : Ob := .sym lispB [97]
def inU : Ob := Ob.list [aU, .num hfU]
def oU : Ob := Ob.list [quoteO, inU]
theorem symF6 (s : ByteArray) (w : World) : Calls Tryz.prog 26 #[.agg #[.string (BA lispB), .string s]] w (fun e w' => e = .returned (.agg #[.int .i64 2, .string ⟨#[]⟩, .string ⟨#[]⟩, .string (BA lispB), .string s, .string ⟨#[]⟩, .slice none 0 0]) ∧ Below w.heap.size w w') :=
 (symO (BA lispB) s w NoB).mono fun e w' ⟨p, he, hp, hb⟩ => by
   have hpe : p = .slice none 0 0 := hp
   subst hpe
   refine ⟨he.trans ?_, hb⟩
   show Ending.returned (.agg #[.int .i64 2, .string ⟨#[]⟩, .string ⟨#[]⟩, .string (BA (LA (BA lispB))), .string (BA (LA s)), .string ⟨#[]⟩, .slice none 0 0]) = _
   rw [BA_LA, BA_LA]
theorem ratF6 (w : World) : Calls Tryz.prog 29 #[.string ⟨#[49]⟩, .string ⟨#[50]⟩] w (fun e w' => e = .returned (.agg #[.int .i64 1, .string (nt hfU), .string (dt hfU), .string ⟨#[]⟩, .string ⟨#[]⟩, .string ⟨#[]⟩, .slice none 0 0]) ∧ Below w.heap.size w w') :=
 (ratO ⟨#[49]⟩ ⟨#[50]⟩ w NoB (NoB.in w) (by decide) (by decide)).mono fun e w' ⟨p, he, hp, hb⟩ => by
   have hpe : p = .slice none 0 0 := hp
   subst hpe
   exact ⟨he, hb⟩
theorem obs2U {w : World} {S : Nat → Prop} {x y : Ob} {p q : Value} {g : Nat} {cs : Array Value} (hx : Pair w S x p) (hy : Pair w S y q) (hg : w.heap[g]? = some (.cells cs 39 (0, 0))) (hc : cs = (cellsO x p ++ cellsO y q).toArray) : ObsAt w S g 0 [x, y] := by
 subst hc
 have hl : (cellsO x p).length = 7 := cellsO_length _ _
 unfold ObsAt
 refine ⟨⟨p, hx, fun j u hj => ?_⟩, ?_⟩
 · have hj7 : j < 7 := by
    rcases Nat.lt_or_ge j 7 with h | h
    · exact h
    · rw [List.getElem?_eq_none (by omega)] at hj; cases hj
   rw [Nat.zero_add, cell_of_row _ _ _ _ _ _ hg, List.getElem?_toArray, List.getElem?_append_left (by omega)]
   exact hj
 · unfold ObsAt
   refine ⟨⟨q, hy, fun j u hj => ?_⟩, by unfold ObsAt; trivial⟩
   rw [cell_of_row _ _ _ _ _ _ hg, List.getElem?_toArray, List.getElem?_append_right (by omega), show 0 + 7 + j - (cellsO x p).length = j from by omega]
   exact hj
theorem list2U (x y : Ob) (p q : Value) (w : World) (cs : Array Value) (hc : cs = (cellsO x p ++ cellsO y q).toArray) (hx : Hd w x p) (hy : Hd w y q) :
 Calls Tryz.prog 27 #[.slice (some ⟨w.heap.size, 0, none⟩) 2 2] (w.alloc (.cells cs 39)) (RetH (w.alloc (.cells cs 39)) (Ob.list [x, y])) := by
 have hb := below_al w (.cells cs 39)
 have hs : w.heap.size < (w.alloc (.cells cs 39)).heap.size := by simp
 exact (listO [x, y] (some ⟨w.heap.size, 0, none⟩) 2 (w.alloc (.cells cs 39)) (Has _) (In.has _) (Nat.le_refl 2) (show 2 ≤ 100000 by decide) (fun _ => ⟨_, 0, rfl, hs, obs2U (hx.below hb) (hy.below hb) (heap_alloc_new _ _) hc⟩)).mono fun _ _ h => h.h (In.has _)
theorem oU_pr : prV initM5 ⟨#[108, 105, 115, 112]⟩ oU true = (⟨#[39, 40, 97, 32, 49, 47, 50, 41]⟩, 0) := by kernel_rfl
theorem oU_bd : oU.bd 90 := ⟨(⟨.inl rfl, by decide, by decide⟩ : SyOk lispB [113, 117, 111, 116, 101]), ⟨⟨(⟨.inl rfl, by decide, by decide⟩ : SyOk lispB [97]), (bd_quo (k := 1) (Nat.le_refl _) (Nat.le_refl _) (by decide)).more (by decide), nil_ok⟩, nil_ok⟩⟩
theorem first6 (w : World) (hT : EscT w) : Calls Tryz.prog 10 #[] w (RetB w true) := by
 have HT := qh9 hT
 clear hT
 have HW : Hid (Below w.heap.size w w) := Below.refl _ _
 go_enter Tryz.func10, Tryz.ntmps10
 go_wp2_with fail
 with_reducible refine (lispO _ _).mono ?_
 rintro e w1 ⟨rfl, hb⟩
 replace HW := qc9 HW hb
 clear hb
 go_wp2_with fail
 with_reducible refine (symF6 _ _).mono ?_
 rintro e w2 ⟨rfl, hb⟩
 replace HW := qc9 HW hb
 clear hb
 go_wp2_with fail
 with_reducible refine (lispO _ _).mono ?_
 rintro e w3 ⟨rfl, hb⟩
 replace HW := qc9 HW hb
 clear hb
 go_wp2_with fail
 with_reducible refine (symF6 _ _).mono ?_
 rintro e w4 ⟨rfl, hb⟩
 replace HW := qc9 HW hb
 clear hb
 go_wp2_with fail
 with_reducible refine (ratF6 _).mono ?_
 rintro e w5 ⟨rfl, hb⟩
 replace HW := qc9 HW hb
 clear hb
 have K1 := qh9 (list2U aU (.num hfU) (.slice none 0 0) (.slice none 0 0) w5 #[.int .i64 2, .string ⟨#[]⟩, .string ⟨#[]⟩, .string (BA lispB), .string ⟨#[97]⟩, .string ⟨#[]⟩, .slice none 0 0, .int .i64 1, .string (nt hfU), .string (dt hfU), .string ⟨#[]⟩, .string ⟨#[]⟩, .string ⟨#[]⟩, .slice none 0 0] rfl rfl rfl)
 go_wp2_with fail
 replace HW := qh9 (chain2 HW.out (below_al w5 (.cells #[.int .i64 2, .string ⟨#[]⟩, .string ⟨#[]⟩, .string (BA lispB), .string ⟨#[97]⟩, .string ⟨#[]⟩, .slice none 0 0, .int .i64 1, .string (nt hfU), .string (dt hfU), .string ⟨#[]⟩, .string ⟨#[]⟩, .string ⟨#[]⟩, .slice none 0 0] 39)) (Nat.le_refl _))
 with_reducible refine K1.out.mono ?_
 rintro e w6 ⟨p1, rfl, hp1, hb⟩
 replace HW := qc9 HW hb
 clear hb K1
 rw [show vO (Ob.list [aU, .num hfU]) p1 = .agg #[.int .i64 4, .string ⟨#[]⟩, .string ⟨#[]⟩, .string ⟨#[]⟩, .string ⟨#[]⟩, .string ⟨#[]⟩, p1] from rfl]
 have K2 := qh9 (list2U quoteO inU (.slice none 0 0) p1 w6 #[.int .i64 2, .string ⟨#[]⟩, .string ⟨#[]⟩, .string (BA lispB), .string ⟨#[113, 117, 111, 116, 101]⟩, .string ⟨#[]⟩, .slice none 0 0, .int .i64 4, .string ⟨#[]⟩, .string ⟨#[]⟩, .string ⟨#[]⟩, .string ⟨#[]⟩, .string ⟨#[]⟩, p1] rfl rfl hp1)
 clear hp1
 go_wp2_with fail
 replace HW := qh9 (chain2 HW.out (below_al w6 (.cells #[.int .i64 2, .string ⟨#[]⟩, .string ⟨#[]⟩, .string (BA lispB), .string ⟨#[113, 117, 111, 116, 101]⟩, .string ⟨#[]⟩, .slice none 0 0, .int .i64 4, .string ⟨#[]⟩, .string ⟨#[]⟩, .string ⟨#[]⟩, .string ⟨#[]⟩, .string ⟨#[]⟩, p1] 39)) (Nat.le_refl _))
 with_reducible refine K2.out.mono ?_
 rintro e w7 ⟨p2, rfl, hp2, hb⟩
 replace HW := qc9 HW hb
 clear hb K2
 have HP := qh9 hp2
 have T1 := qh9 (aO_new w7 #[.int .i64 0, .string ⟨#[]⟩, .string ⟨#[]⟩, .string ⟨#[]⟩, .string ⟨#[]⟩, .string ⟨#[]⟩, .slice none 0 0])
 unfold aO at T1
 clear hp2
 go_upto_region 2 with ((with_reducible refine storeB (w1 := w7) (g := w7.heap.size) (b := Ob.list [quoteO, inU]) (p := p2) (.tmp 1) (.tmp 12) ?_ ?_ ?_ ?_ HP.out T1.out ?_); rfl; rfl; rfl; rfl; have P := Pt1U.new (w := w7) (o := Ob.list [quoteO, inU]) (p := p2) (z := #[.int .i64 0, .string ⟨#[]⟩, .string ⟨#[]⟩, .string ⟨#[]⟩, .string ⟨#[]⟩, .string ⟨#[]⟩, .slice none 0 0]); generalize World.setRow (w7.alloc (.cells #[.int .i64 0, .string ⟨#[]⟩, .string ⟨#[]⟩, .string ⟨#[]⟩, .string ⟨#[]⟩, .string ⟨#[]⟩, .slice none 0 0] 39)) w7.heap.size (cellsO (Ob.list [quoteO, inU]) p2).toArray = X1 at P ⊢; replace HW := qh9 (chain2 HW.out P.bel (Nat.le_refl _)); replace HP := qh9 (HP.out.below P.bel); have D0 := qh9 P.b0; clear P T1)
 generalize w7.heap.size = g at D0 ⊢
 have D1 : Hid (Bx X1 g #[.int .i64 4, .string ⟨#[]⟩, .string ⟨#[]⟩, .string ⟨#[]⟩, .string ⟨#[]⟩, .string ⟨#[]⟩, p2]) := D0.out
 have D2 : Hid (Bx X1.drew g #[.int .i64 4, .string ⟨#[]⟩, .string ⟨#[]⟩, .string ⟨#[]⟩, .string ⟨#[]⟩, .string ⟨#[]⟩, p2]) := D0.out
 obtain ⟨m0, m1, m2, m3, m4, m5, m6⟩ := Bx.c D1.out
 obtain ⟨n0, n1, n2, n3, n4, n5, n6⟩ := Bx.c D2.out
 have CP : Hid (∀ X x, Below X1.heap.size X1 X → Sy.PgV X initM5 x → Calls Tryz.prog 18 #[x, .string ⟨#[108, 105, 115, 112]⟩, .agg #[.int .i64 4, .string ⟨#[]⟩, .string ⟨#[]⟩, .string ⟨#[]⟩, .string ⟨#[]⟩, .string ⟨#[]⟩, p2]] X (RetTE X ⟨#[39, 40, 97, 32, 49, 47, 50, 41]⟩ 0)) := fun X x hX hx => by
  have := printP initM5 x ⟨#[108, 105, 115, 112]⟩ oU p2 true X hx (by decide) (by decide) (HT.out.keep (HW.out.trans (hX.mono HW.out.size))) (HP.out.below hX) 90 (by decide) oU_bd (by decide) (fun Y hY => validP oU p2 Y (Has Y) oU_bd (by decide) (In.has Y) ((HP.out.below hX).below hY))
  rw [oU_pr] at this
  exact this
 clear D0
 go_wp2_with fail
 go_region_with (first | (go_at_call 30; (with_reducible refine (initialR5 _).mono ?_); rintro e w8 ⟨x, rfl, hx, hb8⟩; have Z8 := qh9 ((Below.drew (Below.refl X1.heap.size X1)).trans hb8); obtain ⟨r0, r1, r2, r3, r4, r5, r6⟩ := Bx.c (D1.out.keep Z8.out); have HX := qh9 hx; clear hb8 hx) | (go_at_call 18; (with_reducible refine (CP.out _ _ Z8.out HX.out).mono ?_); rintro e w9 ⟨rfl, hb9⟩; have Z9 := qc9 Z8 hb9))
 all_goals (have HF := qh9 (chain2 HW.out Z9.out (Nat.le_refl _)); go_wp2; go_ret; exact ⟨rfl, HF.out⟩)
end Go.Proofs.YtlmnjelideegnaaGreatDoor
