import Derived.Test.YtlmnjelideegnaaGreatDoorCl
import Derived.Test.YtlmnjelideegnaaGreatDoorL28
import Derived.Test.YtlmnjelideegnaaGreatDoorL32
import Derived.Test.YtlmnjelideegnaaGreatDoorL17
import Derived.Test.YtlmnjelideegnaaGreatDoorL31
import Derived.Test.YtlmnjelideegnaaGreatDoorL18
import Derived.Test.YtlmnjelideegnaaGreatDoorL26
import Derived.BigRegion
import Derived.Test.YtlmnjelideegnaaGreatDoorL29
import Derived.IntWalk
import Derived.Test.YtlmnjelideegnaaGreatDoorL24
import Derived.Test.YtlmnjelideegnaaGreatDoorL25
import Derived.Deep.RegionHeld3
namespace Go.Proofs.YtlmnjelideegnaaGreatDoor
open Go Go.RowKit
set_option linter.unusedVariables false
set_option maxHeartbeats 32000000
set_option maxRecDepth 100000
theorem packages6 (w : World) : Calls Tryz.prog 13 #[] w (fun e w' => ∃ x, e = .returned x ∧ Sy.PgV w' userM x ∧ Below w.heap.size w w') := by
 go_enter Tryz.func13, Tryz.ntmps13
 go_wp2_with fail
 refine (initialR5 _).mono ?_
 rintro e w1 ⟨x, rfl, hx, hb⟩
 have HX := qh9 hx
 have HB := qh9 hb
 clear hx hb
 go_wp2_with fail
 refine (lispO ⟨#[99, 97, 114]⟩ _).mono ?_
 rintro e w2 ⟨rfl, hb⟩
 replace HX := qh9 (HX.out.keep hb)
 replace HB := qc9 HB hb
 clear hb
 go_wp2_with fail
 refine (lispO ⟨#[110, 105, 108]⟩ _).mono ?_
 rintro e w3 ⟨rfl, hb⟩
 replace HX := qh9 (HX.out.keep hb)
 replace HB := qc9 HB hb
 clear hb
 go_wp2_with fail
 refine (lispO ⟨#[116]⟩ _).mono ?_
 rintro e w4 ⟨rfl, hb⟩
 replace HX := qh9 (HX.out.keep hb)
 replace HB := qc9 HB hb
 clear hb
 go_wp2_with fail
 refine (defR w4 x HX.out).mono ?_
 rintro e w5 ⟨y, rfl, hy, hb⟩
 have HY := qh9 hy
 replace HB := qh9 (chain2 HB.out (chain2 (below_al w4 (.cells #[.string (BA lispB), .string ⟨#[99, 97, 114]⟩, .string (BA lispB), .string ⟨#[110, 105, 108]⟩, .string (BA lispB), .string ⟨#[116]⟩] 23)) hb (Nat.le_refl _)) (Nat.le_refl _))
 clear hy hb
 go_wp2
 go_ret
 exact ⟨y, rfl, HY.out, HB.out⟩
/-- The three packages of the statements. -/
def whereB (k : Nat) : ByteArray := [⟨#[117, 115, 101, 114]⟩, ⟨#[108, 105, 115, 112]⟩, ⟨#[110, 111, 110, 101]⟩].getD k ⟨#[]⟩
theorem where6 (n : Int) (w : World) (hn : -9223372036854775808 ≤ n) (hn' : n ≤ 9223372036854775807) :
 Calls Tryz.prog 14 #[.int .i64 n] w (RetTU w (whereB (n % 3).toNat)) := by
 have C := qh9 (fun X => modO n 3 X hn hn' (by omega) (by omega))
 obtain ⟨k, hk⟩ : ∃ k : Nat, n % 3 = (k : Int) := ⟨(n % 3).toNat, by omega⟩
 rw [hk] at C ⊢
 have h3 : k < 3 := by omega
 clear hk hn hn'
 match k, h3 with
 | 0, _ =>
  go_enter Tryz.func14, Tryz.ntmps14
  go_wp2_with fail
  with_reducible refine (C.out _).mono ?_
  rintro e w1 ⟨rfl, rfl⟩
  go_wp2
  go_ret
  exact ⟨rfl, below_al _ _⟩
 | 1, _ =>
  go_enter Tryz.func14, Tryz.ntmps14
  go_wp2_with fail
  with_reducible refine (C.out _).mono ?_
  rintro e w1 ⟨rfl, rfl⟩
  go_wp2
  go_ret
  exact ⟨rfl, below_al _ _⟩
 | 2, _ =>
  go_enter Tryz.func14, Tryz.ntmps14
  go_wp2_with fail
  with_reducible refine (C.out _).mono ?_
  rintro e w1 ⟨rfl, rfl⟩
  go_wp2
  go_ret
  exact ⟨rfl, below_al _ _⟩
/-- One half. -/
def hfU : Rat := quo (LA ⟨#[49]⟩) (LA ⟨#[50]⟩)
def aU : Ob := .sym lispB [97]
def inU : Ob := Ob.list [aU, .num hfU]
def oU : Ob := Ob.list [quoteO, inU]
theorem symF6 (s : ByteArray) (w : World) : Calls Tryz.prog 26 #[.agg #[.string (BA lispB), .string s]] w (fun e w' => e = .returned (.agg #[.int .i64 2, .string ⟨#[]⟩, .string ⟨#[]⟩, .string (BA lispB), .string s, .string ⟨#[]⟩, .slice none 0 0]) ∧ Below w.heap.size w w') :=
 (symO (BA lispB) s w NoB).mono fun e w' ⟨p, he, hp, hb⟩ => by
   have hpe : p = .slice none 0 0 := hp
   subst hpe
   refine ⟨he.trans ?_, hb⟩
   show Ending.returned (.agg #[.int .i64 2, .string ⟨#[]⟩, .string ⟨#[]⟩, .string (BA (LA (BA lispB))), .string (BA (LA s)), .string ⟨#[]⟩, .slice none 0 0]) = _
   rw [BA_LA, BA_LA]
theorem ratF6 (w : World) : Calls Tryz.prog 29 #[.string ⟨#[49]⟩, .string ⟨#[50]⟩] w (fun e w' => e = .returned (.agg #[.int .i64 1, .string (nt hfU), .string (dt hfU), .string ⟨#[]⟩, .string ⟨#[]⟩, .string ⟨#[]⟩, .slice none 0 0]) ∧ Below w.heap.size w w') :=
 (ratO ⟨#[49]⟩ ⟨#[50]⟩ w NoB (NoB.in w) (by decide) (by decide)).mono fun e w' ⟨p, he, hp, hb⟩ => by
   have hpe : p = .slice none 0 0 := hp
   subst hpe
   exact ⟨he, hb⟩
theorem obs2U {w : World} {S : Nat → Prop} {x y : Ob} {p q : Value} {g : Nat} {cs : Array Value} (hx : Pair w S x p) (hy : Pair w S y q) (hg : w.heap[g]? = some (.cells cs 39 (0, 0))) (hc : cs = (cellsO x p ++ cellsO y q).toArray) : ObsAt w S g 0 [x, y] := by
 subst hc
 have hl : (cellsO x p).length = 7 := cellsO_length _ _
 unfold ObsAt
 refine ⟨⟨p, hx, fun j u hj => ?_⟩, ?_⟩
 · have hj7 : j < 7 := by
    rcases Nat.lt_or_ge j 7 with h | h
    · exact h
    · rw [List.getElem?_eq_none (by omega)] at hj; cases hj
   rw [Nat.zero_add, cell_of_row _ _ _ _ _ _ hg, List.getElem?_toArray, List.getElem?_append_left (by omega)]
   exact hj
 · unfold ObsAt
   refine ⟨⟨q, hy, fun j u hj => ?_⟩, by unfold ObsAt; trivial⟩
   rw [cell_of_row _ _ _ _ _ _ hg, List.getElem?_toArray, List.getElem?_append_right (by omega), show 0 + 7 + j - (cellsO x p).length = j from by omega]
   exact hj
theorem list2U (x y : Ob) (p q : Value) (w : World) (cs : Array Value) (hc : cs = (cellsO x p ++ cellsO y q).toArray) (hx : Hd w x p) (hy : Hd w y q) :
 Calls Tryz.prog 27 #[.slice (some ⟨w.heap.size, 0, none⟩) 2 2] (w.alloc (.cells cs 39)) (RetH (w.alloc (.cells cs 39)) (Ob.list [x, y])) := by
 have hb := below_al w (.cells cs 39)
 have hs : w.heap.size < (w.alloc (.cells cs 39)).heap.size := by simp
 exact (listO [x, y] (some ⟨w.heap.size, 0, none⟩) 2 (w.alloc (.cells cs 39)) (Has _) (In.has _) (Nat.le_refl 2) (show 2 ≤ 100000 by decide) (fun _ => ⟨_, 0, rfl, hs, obs2U (hx.below hb) (hy.below hb) (heap_alloc_new _ _) hc⟩)).mono fun _ _ h => h.h (In.has _)
theorem oU_pr : prV initM5 ⟨#[108, 105, 115, 112]⟩ oU true = (⟨#[39, 40, 97, 32, 49, 47, 50, 41]⟩, 0) := by kernel_rfl
theorem oU_bd : oU.bd 90 := ⟨(⟨.inl rfl, by decide, by decide⟩ : SyOk lispB [113, 117, 111, 116, 101]), ⟨⟨(⟨.inl rfl, by decide, by decide⟩ : SyOk lispB [97]), (bd_quo (k := 1) (Nat.le_refl _) (Nat.le_refl _) (by decide)).more (by decide), nil_ok⟩, nil_ok⟩⟩
theorem first6 (w : World) (hT : EscT w) : Calls Tryz.prog 10 #[] w (RetB w true) := by
 have HT := qh9 hT
 clear hT
 have HW : Hid (Below w.heap.size w w) := Below.refl _ _
 go_enter Tryz.func10, Tryz.ntmps10
 go_wp2_with fail
 with_reducible refine (lispO _ _).mono ?_
 rintro e w1 ⟨rfl, hb⟩
 replace HW := qc9 HW hb
 clear hb
 go_wp2_with fail
 with_reducible refine (symF6 _ _).mono ?_
 rintro e w2 ⟨rfl, hb⟩
 replace HW := qc9 HW hb
 clear hb
 go_wp2_with fail
 with_reducible refine (lispO _ _).mono ?_
 rintro e w3 ⟨rfl, hb⟩
 replace HW := qc9 HW hb
 clear hb
 go_wp2_with fail
 with_reducible refine (symF6 _ _).mono ?_
 rintro e w4 ⟨rfl, hb⟩
 replace HW := qc9 HW hb
 clear hb
 go_wp2_with fail
 with_reducible refine (ratF6 _).mono ?_
 rintro e w5 ⟨rfl, hb⟩
 replace HW := qc9 HW hb
 clear hb
 have K1 := qh9 (list2U aU (.num hfU) (.slice none 0 0) (.slice none 0 0) w5 #[.int .i64 2, .string ⟨#[]⟩, .string ⟨#[]⟩, .string (BA lispB), .string ⟨#[97]⟩, .string ⟨#[]⟩, .slice none 0 0, .int .i64 1, .string (nt hfU), .string (dt hfU), .string ⟨#[]⟩, .string ⟨#[]⟩, .string ⟨#[]⟩, .slice none 0 0] rfl rfl rfl)
 go_wp2_with fail
 replace HW := qh9 (chain2 HW.out (below_al w5 (.cells #[.int .i64 2, .string ⟨#[]⟩, .string ⟨#[]⟩, .string (BA lispB), .string ⟨#[97]⟩, .string ⟨#[]⟩, .slice none 0 0, .int .i64 1, .string (nt hfU), .string (dt hfU), .string ⟨#[]⟩, .string ⟨#[]⟩, .string ⟨#[]⟩, .slice none 0 0] 39)) (Nat.le_refl _))
 with_reducible refine K1.out.mono ?_
 rintro e w6 ⟨p1, rfl, hp1, hb⟩
 replace HW := qc9 HW hb
 clear hb K1
 rw [show vO (Ob.list [aU, .num hfU]) p1 = .agg #[.int .i64 4, .string ⟨#[]⟩, .string ⟨#[]⟩, .string ⟨#[]⟩, .string ⟨#[]⟩, .string ⟨#[]⟩, p1] from rfl]
 have K2 := qh9 (list2U quoteO inU (.slice none 0 0) p1 w6 #[.int .i64 2, .string ⟨#[]⟩, .string ⟨#[]⟩, .string (BA lispB), .string ⟨#[113, 117, 111, 116, 101]⟩, .string ⟨#[]⟩, .slice none 0 0, .int .i64 4, .string ⟨#[]⟩, .string ⟨#[]⟩, .string ⟨#[]⟩, .string ⟨#[]⟩, .string ⟨#[]⟩, p1] rfl rfl hp1)
 clear hp1
 go_wp2_with fail
 replace HW := qh9 (chain2 HW.out (below_al w6 (.cells #[.int .i64 2, .string ⟨#[]⟩, .string ⟨#[]⟩, .string (BA lispB), .string ⟨#[113, 117, 111, 116, 101]⟩, .string ⟨#[]⟩, .slice none 0 0, .int .i64 4, .string ⟨#[]⟩, .string ⟨#[]⟩, .string ⟨#[]⟩, .string ⟨#[]⟩, .string ⟨#[]⟩, p1] 39)) (Nat.le_refl _))
 with_reducible refine K2.out.mono ?_
 rintro e w7 ⟨p2, rfl, hp2, hb⟩
 replace HW := qc9 HW hb
 clear hb K2
 have HP := qh9 hp2
 have T1 := qh9 (aO_new w7 #[.int .i64 0, .string ⟨#[]⟩, .string ⟨#[]⟩, .string ⟨#[]⟩, .string ⟨#[]⟩, .string ⟨#[]⟩, .slice none 0 0])
 unfold aO at T1
 clear hp2
 go_upto_region 2 with ((with_reducible refine storeB (w1 := w7) (g := w7.heap.size) (b := Ob.list [quoteO, inU]) (p := p2) (.tmp 1) (.tmp 12) ?_ ?_ ?_ ?_ HP.out T1.out ?_); rfl; rfl; rfl; rfl; have P := Pt1U.new (w := w7) (o := Ob.list [quoteO, inU]) (p := p2) (z := #[.int .i64 0, .string ⟨#[]⟩, .string ⟨#[]⟩, .string ⟨#[]⟩, .string ⟨#[]⟩, .string ⟨#[]⟩, .slice none 0 0]); generalize World.setRow (w7.alloc (.cells #[.int .i64 0, .string ⟨#[]⟩, .string ⟨#[]⟩, .string ⟨#[]⟩, .string ⟨#[]⟩, .string ⟨#[]⟩, .slice none 0 0] 39)) w7.heap.size (cellsO (Ob.list [quoteO, inU]) p2).toArray = X1 at P ⊢; replace HW := qh9 (chain2 HW.out P.bel (Nat.le_refl _)); replace HP := qh9 (HP.out.below P.bel); have D0 := qh9 P.b0; clear P T1)
 generalize w7.heap.size = g at D0 ⊢
 have D1 : Hid (Bx X1 g #[.int .i64 4, .string ⟨#[]⟩, .string ⟨#[]⟩, .string ⟨#[]⟩, .string ⟨#[]⟩, .string ⟨#[]⟩, p2]) := D0.out
 have D2 : Hid (Bx X1.drew g #[.int .i64 4, .string ⟨#[]⟩, .string ⟨#[]⟩, .string ⟨#[]⟩, .string ⟨#[]⟩, .string ⟨#[]⟩, p2]) := D0.out
 obtain ⟨m0, m1, m2, m3, m4, m5, m6⟩ := Bx.c D1.out
 obtain ⟨n0, n1, n2, n3, n4, n5, n6⟩ := Bx.c D2.out
 have CP : Hid (∀ X x, Below X1.heap.size X1 X → Sy.PgV X initM5 x → Calls Tryz.prog 18 #[x, .string ⟨#[108, 105, 115, 112]⟩, .agg #[.int .i64 4, .string ⟨#[]⟩, .string ⟨#[]⟩, .string ⟨#[]⟩, .string ⟨#[]⟩, .string ⟨#[]⟩, p2]] X (RetTE X ⟨#[39, 40, 97, 32, 49, 47, 50, 41]⟩ 0)) := fun X x hX hx => by
  have := printP initM5 x ⟨#[108, 105, 115, 112]⟩ oU p2 true X hx (by decide) (by decide) (HT.out.keep (HW.out.trans (hX.mono HW.out.size))) (HP.out.below hX) 90 (by decide) oU_bd (by decide) (fun Y hY => validP oU p2 Y (Has Y) oU_bd (by decide) (In.has Y) ((HP.out.below hX).below hY))
  rw [oU_pr] at this
  exact this
 clear D0
 go_wp2_with fail
 go_region_with (first | (go_at_call 30; (with_reducible refine (initialR5 _).mono ?_); rintro e w8 ⟨x, rfl, hx, hb8⟩; have Z8 := qh9 ((Below.drew (Below.refl X1.heap.size X1)).trans hb8); obtain ⟨r0, r1, r2, r3, r4, r5, r6⟩ := Bx.c (D1.out.keep Z8.out); have HX := qh9 hx; clear hb8 hx) | (go_at_call 18; (with_reducible refine (CP.out _ _ Z8.out HX.out).mono ?_); rintro e w9 ⟨rfl, hb9⟩; have Z9 := qc9 Z8 hb9))
 all_goals (have HF := qh9 (chain2 HW.out Z9.out (Nat.le_refl _)); go_wp2; go_ret; exact ⟨rfl, HF.out⟩)



theorem hd_num (w : World) (q : Rat) : Hd w (.num q) (.slice none 0 0) := rfl



structure Pt1 (w X : World) (o : Ob) (p : Value) : Prop where
 bel : Below w.heap.size w X
 b0 : Bx X w.heap.size (cellsO o p).toArray


def Ad (w : World) (o : Ob) (b k : Nat) (p : Value) : Prop := At w (Has w) o b k p
theorem Ad.below {w w' : World} {o : Ob} {b k : Nat} {p : Value} (h : Ad w o b k p) (hb : Below w.heap.size w w') : Ad w' o b k p :=
 (At.below h (In.has w) hb).more fun b hb' => Nat.lt_of_lt_of_le hb' hb.size
theorem Ad.hd {w : World} {o : Ob} {b k : Nat} {p : Value} (h : Ad w o b k p) : Hd w o p := h.2.2
theorem Hd.cons {w : World} {a d : Ob} {p : Value} (h : Hd w (.cons a d) p) : ∃ b o c pa pd, p = .slice (some ⟨b, o, none⟩) 2 c ∧ 2 ≤ c ∧ Ad w a b o pa ∧ Ad w d b (o + 7) pd := Pair.parts h
theorem loadA {ops : Array Oper} {rest : List Oper} {o : Oper} {a : Act} {w : World} {Q : Exit → Act → World → Prop} {g k : Nat} {b : Ob} {p : Value} (ho : ∃ x, o.op = .load 39 x ∧ a.eval x = .pointer (some ⟨g, k, none⟩)) (hgd : o.guard = none)
 (hb : Ad w b g k p)
 (h : wpList Tryz.prog ops Q rest (a.put o.dst (vO b p)) w) : wpList Tryz.prog ops Q (o :: rest) a w := by
 obtain ⟨x, ho, hx⟩ := ho
 exact wpList_load_mid hgd 39 x ho g k hx (cellsO b p) _ hb.2.1 Tryz.underlying39 rfl (by rw [cellsO_length]; kernel_rfl) h
theorem loadAG {ops : Array Oper} {rest : List Oper} {o : Oper} {a : Act} {w : World} {Q : Exit → Act → World → Prop} {g k : Nat} {b : Ob} {p : Value} (ho : ∃ x, o.op = .load 39 x ∧ a.eval x = .pointer (some ⟨g, k, none⟩)) (hw : Region.wanted o (yielded ops a.tmps) = true)
 (hb : Ad w b g k p)
 (h : wpList Tryz.prog ops Q rest (a.put o.dst (vO b p)) w) : wpList Tryz.prog ops Q (o :: rest) a w := by
 obtain ⟨x, ho, hx⟩ := ho
 unfold wpList
 rw [if_pos hw]
 exact .inl (wp_load_mid 39 x ho g k hx (cellsO b p) _ hb.2.1 Tryz.underlying39 rfl (by rw [cellsO_length]; kernel_rfl) h)
theorem countFlat (k : Int) (s1 s2 s3 s4 s5 : ByteArray) (m : Int) (w : World) :
 Calls Tryz.prog 112 #[.agg #[.int .i64 k, .string s1, .string s2, .string s3, .string s4, .string s5, .slice none 0 0], .int .i64 m] w (RetI w 1) := by
 go_enter Tryz.func112, Tryz.ntmps112
 go_wp2
 go_ret
 exact ⟨rfl, aO_below w _⟩
theorem countCons (a d : Ob) (p : Value) (m x y : Int) (w : World) (hx : 1 ≤ x) (hy : 1 ≤ y) (hxy : 1 + x + y ≤ m) (hm : m ≤ 3001) (hp : Hd w (.cons a d) p)
 (ca : ∀ X q, Hd X a q → Calls Tryz.prog 112 #[vO a q, .int .i64 (m - 1)] X (RetI X x)) (cd : ∀ X q, Hd X d q → Calls Tryz.prog 112 #[vO d q, .int .i64 (m - (1 + x))] X (RetI X y)) :
 Calls Tryz.prog 112 #[vO (.cons a d) p, .int .i64 m] w (RetI w (1 + x + y)) := by
 obtain ⟨b1, o1, n1, pa, pd, rfl, hn1, hA, hD⟩ := hp.cons
 have CA := hI ca
 have CD := hI cd
 clear ca cd
 have HA := hI hA
 have HD := hI hD
 clear hA hD
 have ea : cellsO (.cons a d) (.slice (some ⟨b1, o1, none⟩) 2 n1) = [.int .i64 4, .string ⟨#[]⟩, .string ⟨#[]⟩, .string ⟨#[]⟩, .string ⟨#[]⟩, .string ⟨#[]⟩, (.slice (some ⟨b1, o1, none⟩) 2 n1)] := rfl
 have T := Bx1.new w #[.int .i64 4, .string ⟨#[]⟩, .string ⟨#[]⟩, .string ⟨#[]⟩, .string ⟨#[]⟩, .string ⟨#[]⟩, (.slice (some ⟨b1, o1, none⟩) 2 n1)]
 rw [vO_cells ea]
 go_enter Tryz.func112, Tryz.ntmps112
 go_upto_region 1 with fail
 generalize w.alloc (.cells #[.int .i64 4, .string ⟨#[]⟩, .string ⟨#[]⟩, .string ⟨#[]⟩, .string ⟨#[]⟩, .string ⟨#[]⟩, (.slice (some ⟨b1, o1, none⟩) 2 n1)] 39) = W at T ⊢
 have B0 : Hid (Bx W (w.heap.size) (cellsO (.cons a d) (.slice (some ⟨b1, o1, none⟩) 2 n1)).toArray) := by rw [ea]; exact T.b0
 have K0 := hI (hp.below T.bel)
 have HW := hI T.bel
 try rw [← vO_cells ea]
 clear T ea hp
 replace HA := hI (HA.out.below HW.out)
 replace HD := hI (HD.out.below HW.out)
 obtain ⟨m0, _, _, _, _, _, m6⟩ := Bx.c B0.out
 have hm1 : ¬ m ≤ 1 := by omega
 have hm2 : 3 ≤ m := by omega
 go_wp2_with (first | (with_reducible refine lG (.tmp 2) B0.out ?_) | ((with_reducible refine loadA ?_ ?_ HA.out ?_); exact ⟨_, rfl, rfl⟩; rfl) | ((with_reducible refine loadAG ?_ ?_ HA.out ?_); exact ⟨_, rfl, rfl⟩; rfl) | ((with_reducible refine loadA ?_ ?_ HD.out ?_); exact ⟨_, rfl, rfl⟩; rfl) | ((with_reducible refine loadAG ?_ ?_ HD.out ?_); exact ⟨_, rfl, rfl⟩; rfl))
 with_reducible refine (CA.out _ _ HA.out.hd).mono ?_
 rintro e w1 ⟨rfl, hb⟩
 replace B0 := kB B0 hb
 replace K0 := kH K0 hb
 replace HW := kW HW hb
 replace HA := hI (HA.out.below hb)
 replace HD := hI (HD.out.below hb)
 clear hb
 obtain ⟨m0, _, _, _, _, _, m6⟩ := Bx.c B0.out
 have hn2 : ¬ m ≤ 1 + x := by omega
 go_wp2_with (first | (with_reducible refine lG (.tmp 2) B0.out ?_) | ((with_reducible refine loadA ?_ ?_ HA.out ?_); exact ⟨_, rfl, rfl⟩; rfl) | ((with_reducible refine loadAG ?_ ?_ HA.out ?_); exact ⟨_, rfl, rfl⟩; rfl) | ((with_reducible refine loadA ?_ ?_ HD.out ?_); exact ⟨_, rfl, rfl⟩; rfl) | ((with_reducible refine loadAG ?_ ?_ HD.out ?_); exact ⟨_, rfl, rfl⟩; rfl))
 with_reducible refine (CD.out _ _ HD.out.hd).mono ?_
 rintro e w2 ⟨rfl, hb⟩
 replace B0 := kB B0 hb
 replace K0 := kH K0 hb
 replace HW := kW HW hb
 replace HA := hI (HA.out.below hb)
 replace HD := hI (HD.out.below hb)
 clear hb
 go_wp2_with (first | (with_reducible refine lG (.tmp 2) B0.out ?_) | ((with_reducible refine loadA ?_ ?_ HA.out ?_); exact ⟨_, rfl, rfl⟩; rfl) | ((with_reducible refine loadAG ?_ ?_ HA.out ?_); exact ⟨_, rfl, rfl⟩; rfl) | ((with_reducible refine loadA ?_ ?_ HD.out ?_); exact ⟨_, rfl, rfl⟩; rfl) | ((with_reducible refine loadAG ?_ ?_ HD.out ?_); exact ⟨_, rfl, rfl⟩; rfl))
 go_ret
 exact ⟨ret_int (by omega), HW.out⟩
theorem countR : ∀ (o : Ob) (p : Value) (m : Int) (w : World), (o.nodes : Int) ≤ m → m ≤ 3001 → Hd w o p → Calls Tryz.prog 112 #[vO o p, .int .i64 m] w (RetI w (o.nodes : Int))
 | .num q, p, m, w, h, h', hp => by obtain rfl := hp.flat rfl; exact countFlat _ _ _ _ _ _ m w
 | .str s, p, m, w, h, h', hp => by obtain rfl := hp.flat rfl; exact countFlat _ _ _ _ _ _ m w
 | .sym x y, p, m, w, h, h', hp => by obtain rfl := hp.flat rfl; exact countFlat _ _ _ _ _ _ m w
 | .cons a d, p, m, w, h, h', hp => by
  have e : ((Ob.cons a d).nodes : Int) = 1 + (a.nodes : Int) + (d.nodes : Int) := by show ((1 + a.nodes + d.nodes : Nat) : Int) = _; omega
  have ha := a.nodes_pos
  have hd := d.nodes_pos
  rw [e] at h ⊢
  exact countCons a d p m _ _ w (by omega) (by omega) h h' hp (fun X q hq => countR a q (m - 1) X (by omega) (by omega) hq) (fun X q hq => countR d q _ X (by omega) (by omega) hq)
theorem nodesR (o : Ob) (p : Value) (w : World) (hn : o.nodes ≤ 3000) (hp : Hd w o p) :
 Calls Tryz.prog 84 #[vO o p] w (RetI w (o.nodes : Int)) := by
 obtain ⟨a0, a1, a2, a3, a4, a5, ea⟩ := cells7 (o) p
 have T := Bx1.new w #[a0, a1, a2, a3, a4, a5, p]
 rw [vO_cells ea]
 go_enter Tryz.func84, Tryz.ntmps84
 go_wp2_with fail
 generalize w.alloc (.cells #[a0, a1, a2, a3, a4, a5, p] 39) = W at T ⊢
 have B0 : Hid (Bx W (w.heap.size) (cellsO (o) p).toArray) := by rw [ea]; exact T.b0
 have K0 := hI (hp.below T.bel)
 have HW := hI T.bel
 try rw [← vO_cells ea]
 clear T ea hp
 with_reducible refine (countR o p 3001 _ (by omega) (by omega) K0.out).mono ?_
 rintro e w1 ⟨rfl, hb⟩
 replace B0 := kB B0 hb
 replace K0 := kH K0 hb
 replace HW := kW HW hb
 clear hb
 go_wp2_with (with_reducible refine lG (.tmp 1) B0.out ?_)
 go_ret
 exact ⟨rfl, HW.out⟩
theorem packR (w : World) : Calls Tryz.prog 105 #[.string (BA lispB)] w fun e w' => e = .returned (.bool true) ∧ w = w' := by
 show Calls _ _ #[.string ⟨#[108, 105, 115, 112]⟩] _ _
 go_enter Tryz.func105, Tryz.ntmps105
 go_wp2_with fail
 go_loop [3] (fun v => ∃ i : Nat, i ≤ 4 ∧ v = .int .i64 i) (fun v => 4 - (intOf v).toNat)
 case atStart => exact ⟨0, by omega, rfl⟩
 case round =>
  obtain ⟨i, hi, rfl⟩ := hrel
  have h5 : i = 0 ∨ i = 1 ∨ i = 2 ∨ i = 3 ∨ i = 4 := by omega
  rcases h5 with rfl | rfl | rfl | rfl | rfl
  · go_wp2
    go_round
    case rel => exact ⟨1, by omega, rfl⟩
    case measure => simp [intOf]
  · go_wp2
    go_round
    case rel => exact ⟨2, by omega, rfl⟩
    case measure => simp [intOf]
  · go_wp2
    go_round
    case rel => exact ⟨3, by omega, rfl⟩
    case measure => simp [intOf]
  · go_wp2
    go_round
    case rel => exact ⟨4, by omega, rfl⟩
    case measure => simp [intOf]
  · go_wp2
    go_ret
    exact ⟨rfl, rfl⟩
theorem packU (w : World) : Calls Tryz.prog 105 #[.string (BA userB)] w fun e w' => e = .returned (.bool true) ∧ w = w' := by
 show Calls _ _ #[.string ⟨#[117, 115, 101, 114]⟩] _ _
 go_enter Tryz.func105, Tryz.ntmps105
 go_wp2_with fail
 go_loop [3] (fun v => ∃ i : Nat, i ≤ 4 ∧ v = .int .i64 i) (fun v => 4 - (intOf v).toNat)
 case atStart => exact ⟨0, by omega, rfl⟩
 case round =>
  obtain ⟨i, hi, rfl⟩ := hrel
  have h5 : i = 0 ∨ i = 1 ∨ i = 2 ∨ i = 3 ∨ i = 4 := by omega
  rcases h5 with rfl | rfl | rfl | rfl | rfl
  · go_wp2
    go_round
    case rel => exact ⟨1, by omega, rfl⟩
    case measure => simp [intOf]
  · go_wp2
    go_round
    case rel => exact ⟨2, by omega, rfl⟩
    case measure => simp [intOf]
  · go_wp2
    go_round
    case rel => exact ⟨3, by omega, rfl⟩
    case measure => simp [intOf]
  · go_wp2
    go_round
    case rel => exact ⟨4, by omega, rfl⟩
    case measure => simp [intOf]
  · go_wp2
    go_ret
    exact ⟨rfl, rfl⟩
theorem namedR (x y : List UInt8) (h : SyOk x y) (w : World) : Calls Tryz.prog 73 #[.agg #[.string (BA x), .string (BA y)]] w (RetB w true) := by
 have P : Hid (∀ w, Calls Tryz.prog 105 #[.string (BA x)] w fun e w' => e = .returned (.bool true) ∧ w = w') := by
  rcases h.1 with rfl | rfl
  · exact packR
  · exact packU
 have h1 : (1 : Int) ≤ ((BA y).size : Int) := by rw [BA_size]; have := h.2.1; omega
 have h2 : ((BA y).size : Int) ≤ 40 := by rw [BA_size]; have := h.2.2; omega
 clear h
 generalize BA x = s at P ⊢
 generalize BA y = t at h1 h2 ⊢
 go_enter Tryz.func73, Tryz.ntmps73
 go_wp2_with fail
 refine (P.out _).mono ?_
 rintro e w' ⟨rfl, rfl⟩
 go_wp2
 go_ret
 exact ⟨rfl, Below.alloc (Below.refl _ _) (Nat.le_refl _) _⟩
theorem formedNum (q : Rat) (w : World) (hb : Bd 90 q) : Calls Tryz.prog 85 #[vO (.num q) (.slice none 0 0)] w (RetB w true) := by
 have hp : Hd w (.num q) (.slice none 0 0) := hd_num w q
 have s1 := bd_nt hb
 have s2 := bd_dt hb
 have RD : Hid (∀ X, Calls Tryz.prog 65 #[.string (nt q), .string (dt q)] X fun e w' => e = .returned (.tuple #[.string (nt q), .string (dt q)]) ∧ Below X.heap.size X w') := fun X => by
  have h := reduceR_q (nt q) (dt q) X (by omega) (by omega)
  rw [quo_self] at h
  exact h
 have n1 : ((body (LA (nt q))).length : Int) ≤ 100 := by have := body_length (LA (nt q)); have e : (LA (nt q)).length = (nt q).size := rfl; omega
 have n2 : ((body (LA (dt q))).length : Int) ≤ 100 := by have := body_length (LA (dt q)); have e : (LA (dt q)).length = (dt q).size := rfl; omega
 have D1 : Hid (∀ X, Calls Tryz.prog 113 #[.string (nt q)] X (RetI X ((body (LA (nt q))).length : Int))) := fun X => digitsCountR (nt q) X (by omega)
 have D2 : Hid (∀ X, Calls Tryz.prog 113 #[.string (dt q)] X (RetI X ((body (LA (dt q))).length : Int))) := fun X => digitsCountR (dt q) X (by omega)
 clear s1 s2 hb
 generalize ((body (LA (nt q))).length : Int) = x1 at n1 D1
 generalize ((body (LA (dt q))).length : Int) = x2 at n2 D2
 have ea : cellsO (.num q) (.slice none 0 0) = [.int .i64 1, .string (nt q), .string (dt q), .string ⟨#[]⟩, .string ⟨#[]⟩, .string ⟨#[]⟩, (.slice none 0 0)] := rfl
 have T := Bx1.new w #[.int .i64 1, .string (nt q), .string (dt q), .string ⟨#[]⟩, .string ⟨#[]⟩, .string ⟨#[]⟩, (.slice none 0 0)]
 rw [vO_cells ea]
 go_enter Tryz.func85, Tryz.ntmps85
 go_upto_region 1 with fail
 generalize w.alloc (.cells #[.int .i64 1, .string (nt q), .string (dt q), .string ⟨#[]⟩, .string ⟨#[]⟩, .string ⟨#[]⟩, (.slice none 0 0)] 39) = W at T ⊢
 have B0 : Hid (Bx W (w.heap.size) (cellsO (.num q) (.slice none 0 0)).toArray) := by rw [ea]; exact T.b0
 have K0 := hI (hp.below T.bel)
 have HW := hI T.bel
 try rw [← vO_cells ea]
 clear T ea hp
 obtain ⟨m0, m1, m2, m3, m4, m5, m6⟩ := Bx.c B0.out
 try unfold e0 at m1
 try unfold e0 at m2
 try unfold e0 at m3
 try unfold e0 at m4
 try unfold e0 at m5
 go_wp2_with (with_reducible refine lG (.tmp 1) B0.out ?_)
 with_reducible refine (RD.out _).mono ?_
 rintro e w1 ⟨rfl, hb⟩
 replace B0 := kB B0 hb
 replace K0 := kH K0 hb
 replace HW := kW HW hb
 clear hb
 obtain ⟨m0, m1, m2, m3, m4, m5, m6⟩ := Bx.c B0.out
 try unfold e0 at m1
 try unfold e0 at m2
 try unfold e0 at m3
 try unfold e0 at m4
 try unfold e0 at m5
 go_wp2_with (with_reducible refine lG (.tmp 1) B0.out ?_)
 with_reducible refine (D1.out _).mono ?_
 rintro e w2 ⟨rfl, hb⟩
 replace B0 := kB B0 hb
 replace K0 := kH K0 hb
 replace HW := kW HW hb
 clear hb
 obtain ⟨m0, m1, m2, m3, m4, m5, m6⟩ := Bx.c B0.out
 try unfold e0 at m1
 try unfold e0 at m2
 try unfold e0 at m3
 try unfold e0 at m4
 try unfold e0 at m5
 go_wp2_with (with_reducible refine lG (.tmp 1) B0.out ?_)
 with_reducible refine (D2.out _).mono ?_
 rintro e w3 ⟨rfl, hb⟩
 replace B0 := kB B0 hb
 replace K0 := kH K0 hb
 replace HW := kW HW hb
 clear hb
 go_wp2_with (with_reducible refine lG (.tmp 1) B0.out ?_)
 go_ret
 exact ⟨rfl, HW.out⟩
theorem formedStr (s : List UInt8) (w : World) (hb : s.length ≤ 200) : Calls Tryz.prog 85 #[vO (.str s) (.slice none 0 0)] w (RetB w true) := by
 have hp : Hd w (.str s) (.slice none 0 0) := rfl
 have hs : ((BA s).size : Int) ≤ 200 := by rw [BA_size]; omega
 clear hb
 have ea : cellsO (.str s) (.slice none 0 0) = [.int .i64 3, .string ⟨#[]⟩, .string ⟨#[]⟩, .string ⟨#[]⟩, .string ⟨#[]⟩, .string (BA s), (.slice none 0 0)] := rfl
 have T := Bx1.new w #[.int .i64 3, .string ⟨#[]⟩, .string ⟨#[]⟩, .string ⟨#[]⟩, .string ⟨#[]⟩, .string (BA s), (.slice none 0 0)]
 rw [vO_cells ea]
 go_enter Tryz.func85, Tryz.ntmps85
 go_upto_region 1 with fail
 generalize w.alloc (.cells #[.int .i64 3, .string ⟨#[]⟩, .string ⟨#[]⟩, .string ⟨#[]⟩, .string ⟨#[]⟩, .string (BA s), (.slice none 0 0)] 39) = W at T ⊢
 have B0 : Hid (Bx W (w.heap.size) (cellsO (.str s) (.slice none 0 0)).toArray) := by rw [ea]; exact T.b0
 have K0 := hI (hp.below T.bel)
 have HW := hI T.bel
 try rw [← vO_cells ea]
 clear T ea hp
 obtain ⟨m0, m1, m2, m3, m4, m5, m6⟩ := Bx.c B0.out
 try unfold e0 at m1
 try unfold e0 at m2
 try unfold e0 at m3
 try unfold e0 at m4
 try unfold e0 at m5
 go_wp2_with (with_reducible refine lG (.tmp 1) B0.out ?_)
 go_ret
 exact ⟨rfl, HW.out⟩
theorem formedSym (x y : List UInt8) (w : World) (hb : SyOk x y) : Calls Tryz.prog 85 #[vO (.sym x y) (.slice none 0 0)] w (RetB w true) := by
 have hp : Hd w (.sym x y) (.slice none 0 0) := rfl
 have N : Hid (∀ X, Calls Tryz.prog 73 #[.agg #[.string (BA x), .string (BA y)]] X (RetB X true)) := fun X => namedR x y hb X
 have hx3 : ¬ (BA x).toList = [] := by
  rw [BA_toList]
  rcases hb.1 with rfl | rfl <;> decide
 have hx1 : ((BA x).toList == []) = false := by rw [beq_eq_false_iff_ne]; exact hx3
 have hx2 : (BA x).toList.isEmpty = false := by rw [List.isEmpty_eq_false_iff]; exact hx3
 clear hb
 have ea : cellsO (.sym x y) (.slice none 0 0) = [.int .i64 2, .string ⟨#[]⟩, .string ⟨#[]⟩, .string (BA x), .string (BA y), .string ⟨#[]⟩, (.slice none 0 0)] := rfl
 have T := Bx1.new w #[.int .i64 2, .string ⟨#[]⟩, .string ⟨#[]⟩, .string (BA x), .string (BA y), .string ⟨#[]⟩, (.slice none 0 0)]
 rw [vO_cells ea]
 go_enter Tryz.func85, Tryz.ntmps85
 go_upto_region 1 with fail
 generalize w.alloc (.cells #[.int .i64 2, .string ⟨#[]⟩, .string ⟨#[]⟩, .string (BA x), .string (BA y), .string ⟨#[]⟩, (.slice none 0 0)] 39) = W at T ⊢
 have B0 : Hid (Bx W (w.heap.size) (cellsO (.sym x y) (.slice none 0 0)).toArray) := by rw [ea]; exact T.b0
 have K0 := hI (hp.below T.bel)
 have HW := hI T.bel
 try rw [← vO_cells ea]
 clear T ea hp
 obtain ⟨m0, m1, m2, m3, m4, m5, m6⟩ := Bx.c B0.out
 try unfold e0 at m1
 try unfold e0 at m2
 try unfold e0 at m3
 try unfold e0 at m4
 try unfold e0 at m5
 go_wp2_with (with_reducible refine lG (.tmp 1) B0.out ?_)
 with_reducible refine (N.out _).mono ?_
 rintro e w1 ⟨rfl, hb⟩
 replace B0 := kB B0 hb
 replace K0 := kH K0 hb
 replace HW := kW HW hb
 clear hb
 obtain ⟨m0, m1, m2, m3, m4, m5, m6⟩ := Bx.c B0.out
 try unfold e0 at m1
 try unfold e0 at m2
 try unfold e0 at m3
 try unfold e0 at m4
 try unfold e0 at m5
 go_wp2_with (with_reducible refine lG (.tmp 1) B0.out ?_)
 go_ret
 exact ⟨rfl, HW.out⟩
theorem formedCons (a d : Ob) (p : Value) (w : World) (hp : Hd w (.cons a d) p)
 (ca : ∀ X q, Hd X a q → Calls Tryz.prog 85 #[vO a q] X (RetB X true)) (cd : ∀ X q, Hd X d q → Calls Tryz.prog 85 #[vO d q] X (RetB X true)) :
 Calls Tryz.prog 85 #[vO (.cons a d) p] w (RetB w true) := by
 obtain ⟨b1, o1, n1, pa, pd, rfl, hn1, hA, hD⟩ := hp.cons
 have CA := hI ca
 have CD := hI cd
 clear ca cd
 have HA := hI hA
 have HD := hI hD
 clear hA hD
 have ea : cellsO (.cons a d) (.slice (some ⟨b1, o1, none⟩) 2 n1) = [.int .i64 4, .string ⟨#[]⟩, .string ⟨#[]⟩, .string ⟨#[]⟩, .string ⟨#[]⟩, .string ⟨#[]⟩, (.slice (some ⟨b1, o1, none⟩) 2 n1)] := rfl
 have T := Bx1.new w #[.int .i64 4, .string ⟨#[]⟩, .string ⟨#[]⟩, .string ⟨#[]⟩, .string ⟨#[]⟩, .string ⟨#[]⟩, (.slice (some ⟨b1, o1, none⟩) 2 n1)]
 rw [vO_cells ea]
 go_enter Tryz.func85, Tryz.ntmps85
 go_upto_region 1 with fail
 generalize w.alloc (.cells #[.int .i64 4, .string ⟨#[]⟩, .string ⟨#[]⟩, .string ⟨#[]⟩, .string ⟨#[]⟩, .string ⟨#[]⟩, (.slice (some ⟨b1, o1, none⟩) 2 n1)] 39) = W at T ⊢
 have B0 : Hid (Bx W (w.heap.size) (cellsO (.cons a d) (.slice (some ⟨b1, o1, none⟩) 2 n1)).toArray) := by rw [ea]; exact T.b0
 have K0 := hI (hp.below T.bel)
 have HW := hI T.bel
 try rw [← vO_cells ea]
 clear T ea hp
 replace HA := hI (HA.out.below HW.out)
 replace HD := hI (HD.out.below HW.out)
 obtain ⟨m0, m1, m2, m3, m4, m5, m6⟩ := Bx.c B0.out
 try unfold e0 at m1
 try unfold e0 at m2
 try unfold e0 at m3
 try unfold e0 at m4
 try unfold e0 at m5
 go_wp2_with (first | (with_reducible refine lG (.tmp 1) B0.out ?_) | ((with_reducible refine loadA ?_ ?_ HA.out ?_); exact ⟨_, rfl, rfl⟩; rfl) | ((with_reducible refine loadAG ?_ ?_ HA.out ?_); exact ⟨_, rfl, rfl⟩; rfl) | ((with_reducible refine loadA ?_ ?_ HD.out ?_); exact ⟨_, rfl, rfl⟩; rfl) | ((with_reducible refine loadAG ?_ ?_ HD.out ?_); exact ⟨_, rfl, rfl⟩; rfl))
 with_reducible refine (CA.out _ _ HA.out.hd).mono ?_
 rintro e w1 ⟨rfl, hb⟩
 replace B0 := kB B0 hb
 replace K0 := kH K0 hb
 replace HW := kW HW hb
 replace HA := hI (HA.out.below hb)
 replace HD := hI (HD.out.below hb)
 clear hb
 obtain ⟨m0, m1, m2, m3, m4, m5, m6⟩ := Bx.c B0.out
 try unfold e0 at m1
 try unfold e0 at m2
 try unfold e0 at m3
 try unfold e0 at m4
 try unfold e0 at m5
 go_wp2_with (first | (with_reducible refine lG (.tmp 1) B0.out ?_) | ((with_reducible refine loadA ?_ ?_ HA.out ?_); exact ⟨_, rfl, rfl⟩; rfl) | ((with_reducible refine loadAG ?_ ?_ HA.out ?_); exact ⟨_, rfl, rfl⟩; rfl) | ((with_reducible refine loadA ?_ ?_ HD.out ?_); exact ⟨_, rfl, rfl⟩; rfl) | ((with_reducible refine loadAG ?_ ?_ HD.out ?_); exact ⟨_, rfl, rfl⟩; rfl))
 with_reducible refine (CD.out _ _ HD.out.hd).mono ?_
 rintro e w2 ⟨rfl, hb⟩
 replace B0 := kB B0 hb
 replace K0 := kH K0 hb
 replace HW := kW HW hb
 replace HA := hI (HA.out.below hb)
 replace HD := hI (HD.out.below hb)
 clear hb
 go_wp2_with (first | (with_reducible refine lG (.tmp 1) B0.out ?_) | ((with_reducible refine loadA ?_ ?_ HA.out ?_); exact ⟨_, rfl, rfl⟩; rfl) | ((with_reducible refine loadAG ?_ ?_ HA.out ?_); exact ⟨_, rfl, rfl⟩; rfl) | ((with_reducible refine loadA ?_ ?_ HD.out ?_); exact ⟨_, rfl, rfl⟩; rfl) | ((with_reducible refine loadAG ?_ ?_ HD.out ?_); exact ⟨_, rfl, rfl⟩; rfl))
 go_ret
 exact ⟨rfl, HW.out⟩
theorem formedR : ∀ (o : Ob) (p : Value) (w : World), o.bd 90 → Hd w o p → Calls Tryz.prog 85 #[vO o p] w (RetB w true)
 | .num q, p, w, h, hp => by obtain rfl := hp.flat rfl; exact formedNum q w h
 | .str s, p, w, h, hp => by obtain rfl := hp.flat rfl; exact formedStr s w h
 | .sym x y, p, w, h, hp => by obtain rfl := hp.flat rfl; exact formedSym x y w h
 | .cons a d, p, w, h, hp => formedCons a d p w hp (fun X q hq => formedR a q X h.1 hq) (fun X q hq => formedR d q X h.2 hq)
theorem valid2R (o : Ob) (p : Value) (w : World) (hb : o.bd 90) (hn : o.nodes ≤ 3000) (hp : Hd w o p) :
 Calls Tryz.prog 52 #[vO o p] w (RetB w true) := by
 have HN := hI hn
 have HB := hI hb
 have hn1 : (o.nodes : Int) ≤ 3000 := by omega
 clear hn hb
 obtain ⟨a0, a1, a2, a3, a4, a5, ea⟩ := cells7 (o) p
 have T := Bx1.new w #[a0, a1, a2, a3, a4, a5, p]
 rw [vO_cells ea]
 go_enter Tryz.func52, Tryz.ntmps52
 go_wp2_with fail
 generalize w.alloc (.cells #[a0, a1, a2, a3, a4, a5, p] 39) = W at T ⊢
 have B0 : Hid (Bx W (w.heap.size) (cellsO (o) p).toArray) := by rw [ea]; exact T.b0
 have K0 := hI (hp.below T.bel)
 have HW := hI T.bel
 try rw [← vO_cells ea]
 clear T ea hp
 with_reducible refine (nodesR o p _ HN.out K0.out).mono ?_
 rintro e w1 ⟨rfl, hb⟩
 replace B0 := kB B0 hb
 replace K0 := kH K0 hb
 replace HW := kW HW hb
 clear hb
 go_wp2_with (with_reducible refine lG (.tmp 1) B0.out ?_)
 with_reducible refine (formedR o p _ HB.out K0.out).mono ?_
 rintro e w2 ⟨rfl, hb⟩
 replace B0 := kB B0 hb
 replace K0 := kH K0 hb
 replace HW := kW HW hb
 clear hb
 go_wp2_with (with_reducible refine lG (.tmp 1) B0.out ?_)
 go_ret
 exact ⟨rfl, HW.out⟩
/-- A raw tree in its box. -/
def RwB (W : World) (g : Nat) (a b c d : Value) : Prop := W.heap[g]? = some (.cells #[a, b, c, d] 35 (0, 0))
theorem RwB.keep {W W' : World} {g : Nat} {a b c d : Value} (h : RwB W g a b c d) (hb : Below W.heap.size W W') : RwB W' g a b c d := (hb.block g (blk_lt h)).trans h
theorem RwB.c {W : World} {g : Nat} {a b c d : Value} (h : RwB W g a b c d) : W.cell? ⟨g, 0, none⟩ = some a ∧ W.cell? ⟨g, 1, none⟩ = some b ∧ W.cell? ⟨g, 2, none⟩ = some c ∧ W.cell? ⟨g, 3, none⟩ = some d := by
 refine ⟨?_, ?_, ?_, ?_⟩ <;> (rw [cell_of_row _ _ _ _ _ _ h]; rfl)
theorem RetX.hU {w w' : World} {m : Nat} {e : Ending} (h : RetX w m e w') : ∃ o p, e = .returned (vO o p) ∧ Hd w' o p ∧ Below w.heap.size w w' ∧ OkO m o := by
 obtain ⟨o, p, h1, h2, h3, h4⟩ := h
 exact ⟨o, p, h1, h2.more (fun b hb => by rcases hb with hb | hb; exact hb.elim; exact hb.2), h3, h4⟩
end Go.Proofs.YtlmnjelideegnaaGreatDoor
