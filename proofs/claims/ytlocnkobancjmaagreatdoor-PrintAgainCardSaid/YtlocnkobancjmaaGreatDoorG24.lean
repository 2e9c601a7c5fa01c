import Derived.Test.YtlocnkobancjmaaGreatDoorAl
import Derived.Test.YtlocnkobancjmaaGreatDoorG16
import Derived.Test.YtlocnkobancjmaaGreatDoorG23
import Derived.Test.YtlocnkobancjmaaGreatDoorG18
import Derived.Deep.RegionWith
import Derived.Test.YtlocnkobancjmaaGreatDoorG14
import Derived.Test.YtlocnkobancjmaaGreatDoorG11
namespace Go.Proofs.YtlocnkobancjmaaGreatDoor
open Go Go.RowKit
set_option linter.unusedVariables false
set_option maxHeartbeats 32000000
set_option maxRecDepth 100000
def Psr (W0 w : World) (g : Nat) (l : List Sy.Pg) (lv : Value) (cur : ByteArray) (ts : List Tk) : Prop :=
 ∃ tv, w.heap[g]? = some (.cells #[lv, .string cur, tv] 154 (0, 0)) ∧ W0.heap.size ≤ g ∧ Below W0.heap.size W0 w ∧ Sy.PgV W0 l lv ∧ TkV W0 0 ts tv
theorem Psr.lt {W0 w : World} {g : Nat} {l : List Sy.Pg} {lv : Value} {cur : ByteArray} {ts : List Tk} (h : Psr W0 w g l lv cur ts) : g < w.heap.size := by
 obtain ⟨tv, h1, _⟩ := h
 exact Sy.blk_ltY h1
theorem Psr.keep {W0 w w' : World} {g : Nat} {l : List Sy.Pg} {lv : Value} {cur : ByteArray} {ts : List Tk} (h : Psr W0 w g l lv cur ts) (hb : Below w.heap.size w w') : Psr W0 w' g l lv cur ts := by
 obtain ⟨tv, h1, h2, h3, h4⟩ := h
 exact ⟨tv, (hb.block g (Sy.blk_ltY h1)).trans h1, h2, h3.trans (hb.mono h3.size), h4⟩
theorem flatT_cons (t : Tk) (r : List Tk) : flatT (t :: r) = (tkC t).toList ++ flatT r := by unfold flatT; simp
theorem TkV.head {w : World} {B : Nat} {t : Tk} {r : List Tk} {v : Value} (h : TkV w B (t :: r) v) : ∃ b o c, v = .slice (some ⟨b, o, none⟩) (r.length + 1) c ∧ r.length + 1 ≤ c ∧ c ≤ maxLen ∧ b < w.heap.size ∧
 w.cell? ⟨b, o, none⟩ = some (.int .i64 t.k) ∧ w.cell? ⟨b, o + 1, none⟩ = some (.int .i64 t.p) ∧ w.cell? ⟨b, o + 2, none⟩ = some (.string (BA t.pkg)) ∧ w.cell? ⟨b, o + 3, none⟩ = some (.string (BA t.txt)) ∧ w.cell? ⟨b, o + 4, none⟩ = some (.string (BA t.den)) ∧
 (r ≠ [] → TkV w B r (.slice (some ⟨b, o + 5, none⟩) r.length (c - 1))) := by
 obtain ⟨A, c, rfl, h2, h3, h4⟩ := h
 obtain ⟨b, o, rfl, h6, h7⟩ := h4 (by simp)
 have e : ∀ j u, (tkC t).toList[j]? = some u → w.cell? ⟨b, o + j, none⟩ = some u := fun j u hj => h7 j u (by
  rw [flatT_cons, List.getElem?_append_left]
  · exact hj
  · exact (List.getElem?_eq_some_iff.1 hj).1)
 rw [List.length_cons] at h2
 refine ⟨b, o, c, rfl, h2, h3, h6.2, e 0 _ rfl, e 1 _ rfl, e 2 _ rfl, e 3 _ rfl, e 4 _ rfl, fun hr => ⟨_, _, rfl, by omega, by omega, fun _ => ⟨b, o + 5, rfl, h6, fun j u hj => ?_⟩⟩⟩
 have := h7 (5 + j) u (by
  rw [flatT_cons, List.getElem?_append_right (by show 5 ≤ 5 + j; omega)]
  show (flatT r)[5 + j - 5]? = _
  rw [show 5 + j - 5 = j by omega]
  exact hj)
 rwa [show o + (5 + j) = o + 5 + j by omega] at this
theorem Psr.row {W0 w : World} {g b : Nat} {l : List Sy.Pg} {lv : Value} {cur : ByteArray} {ts : List Tk} (h : Psr W0 w g l lv cur ts) (hg : g < b) (c : Array Value) : Psr W0 (w.setRow b c) g l lv cur ts := by
 obtain ⟨tv, h1, h2, h3, h4⟩ := h
 exact ⟨tv, (setRow_other _ _ _ _ (by omega)).trans h1, h2, below_setRow h3 (by omega) _, h4⟩
theorem But.row {g b : Nat} {w W : World} (h : But g w W) (hb : w.heap.size ≤ b) (c : Array Value) : But g w (W.setRow b c) :=
 ⟨h.os, h.tape, h.output, by have := h.size; simpa using this, fun k hk hne => (setRow_other _ _ _ _ (by omega)).trans (h.block k hk hne)⟩
theorem TB.load {ops : Array Oper} {rest : List Oper} {o : Oper} {a : Act} {w : World} {Q : Exit → Act → World → Prop} (x : Operand) (ho : o.op = .load 157 x) (hgd : o.guard = none)
 {g : Nat} {t : Tk} (hx : a.eval x = .pointer (some ⟨g, 0, none⟩)) (hg : TB w g (tkC t))
 (h : wpList Tryz.prog ops Q rest (a.put o.dst (tkV t)) w) : wpList Tryz.prog ops Q (o :: rest) a w :=
 wpList_load_row hgd 157 x ho g hx 157 (tkC t) (0, 0) _ hg Tryz.underlying157 rfl (by kernel_rfl) h
theorem below_set {B : Nat} (W : World) (g k : Nat) (v : Value) (hB : B ≤ g) : Below B W (W.setCell ⟨g, k, none⟩ v) := (Below.refl B W).setCell hB v
structure PsC (W0 w : World) (g : Nat) (l : List Sy.Pg) (lv : Value) (cur : ByteArray) (t : Tk) (r : List Tk) (b o c : Nat) : Prop where
 c0 : w.cell? ⟨g, 0, none⟩ = some lv
 c1 : w.cell? ⟨g, 1, none⟩ = some (.string cur)
 c2 : w.cell? ⟨g, 2, none⟩ = some (.slice (some ⟨b, o, none⟩) (r.length + 1) c)
 cf : w.frozen? ⟨g, 2, none⟩ = false
 hc : r.length + 1 ≤ c
 hm : c ≤ maxLen
 t0 : w.cell? ⟨b, o, none⟩ = some (.int .i64 t.k)
 t1 : w.cell? ⟨b, o + 1, none⟩ = some (.int .i64 t.p)
 t2 : w.cell? ⟨b, o + 2, none⟩ = some (.string (BA t.pkg))
 t3 : w.cell? ⟨b, o + 3, none⟩ = some (.string (BA t.txt))
 t4 : w.cell? ⟨b, o + 4, none⟩ = some (.string (BA t.den))
 tl : r ≠ [] → Psr W0 (w.setCell ⟨g, 2, none⟩ (.slice (some ⟨b, o + 5, none⟩) r.length (c - 1))) g l lv cur r
theorem Psr.open {W0 w : World} {g : Nat} {l : List Sy.Pg} {lv : Value} {cur : ByteArray} {t : Tk} {r : List Tk} (h : Psr W0 w g l lv cur (t :: r)) : ∃ b o c, PsC W0 w g l lv cur t r b o c := by
 obtain ⟨tv, h1, h2, h3, h4, h5⟩ := h
 obtain ⟨b, o, c, rfl, k1, k2, k3, k4, k5, k6, k7, k8, k9⟩ := h5.head
 refine ⟨b, o, c, ⟨?_, ?_, ?_, ?_, k1, k2, ?_, ?_, ?_, ?_, ?_, fun hr => ?_⟩⟩
 · rw [cell_of_row _ _ _ _ _ _ h1]; rfl
 · rw [cell_of_row _ _ _ _ _ _ h1]; rfl
 · rw [cell_of_row _ _ _ _ _ _ h1]; rfl
 · simp [World.frozen?, h1]
 · exact (h3.cell k3).trans k4
 · exact (h3.cell k3).trans k5
 · exact (h3.cell k3).trans k6
 · exact (h3.cell k3).trans k7
 · exact (h3.cell k3).trans k8
 · refine ⟨_, ?_, h2, h3.trans (below_set w _ _ _ h2), h4, k9 hr⟩
   simp [World.setCell, Array.getElem?_modify, h1]
theorem peekPs (W0 w : World) (g : Nat) (l : List Sy.Pg) (lv : Value) (cur : ByteArray) (t : Tk) (r : List Tk) (h : Psr W0 w g l lv cur (t :: r)) : Calls Tryz.prog 111 #[.pointer (some ⟨g, 0, none⟩)] w (fun e w' => e = .returned (.int .i64 t.k) ∧ w = w') := by
 obtain ⟨b, o, c, HC0⟩ := h.open
 have c0 := HC0.c0
 have c1 := HC0.c1
 have c2 := HC0.c2
 have t0 := HC0.t0
 have t1 := HC0.t1
 have t2 := HC0.t2
 have t3 := HC0.t3
 have t4 := HC0.t4
 have hcr := HC0.hc
 have hcm := HC0.hm
 have cf := HC0.cf
 unfold maxLen at hcm
 have HC := qh9 HC0
 clear HC0
 have hn : (0 : Int) < ((r.length + 1 : Nat) : Int) := by omega
 go_enter Tryz.func111, Tryz.ntmps111
 go_wp2
 go_ret
 exact ⟨rfl, rfl⟩
theorem takeEnd (W0 w : World) (g : Nat) (l : List Sy.Pg) (lv : Value) (cur : ByteArray) (t : Tk) (r : List Tk) (h : Psr W0 w g l lv cur (t :: r)) (hk : t.k = 0) : Calls Tryz.prog 159 #[.pointer (some ⟨g, 0, none⟩)] w (PanS w g 11 t.p) := by
 obtain ⟨tk, tp, tq, tt, td⟩ := t
 have HG := qh9 h.lt
 have HB := qh9 (show Below w.heap.size w (w.alloc (.cells #[.int .i64 0, .int .i64 0, .string ⟨#[]⟩, .string ⟨#[]⟩, .string ⟨#[]⟩] 157)) from Below.alloc (Below.refl _ _) (Nat.le_refl _) _)
 have HT := qh9 (TB.new w #[.int .i64 0, .int .i64 0, .string ⟨#[]⟩, .string ⟨#[]⟩, .string ⟨#[]⟩])
 have H1 := qh9 (h.keep HB.out)
 clear h
 go_enter Tryz.func159, Tryz.ntmps159
 go_upto_region 1 with fail
 generalize (w.alloc (.cells #[.int .i64 0, .int .i64 0, .string ⟨#[]⟩, .string ⟨#[]⟩, .string ⟨#[]⟩] 157)) = W1 at HB HT H1 ⊢
 obtain ⟨b, o, c, HC0⟩ := H1.out.open
 have c0 := HC0.c0
 have c1 := HC0.c1
 have c2 := HC0.c2
 have t0 := HC0.t0
 have t1 := HC0.t1
 have t2 := HC0.t2
 have t3 := HC0.t3
 have t4 := HC0.t4
 have hcr := HC0.hc
 have hcm := HC0.hm
 have cf := HC0.cf
 unfold maxLen at hcm
 have HC := qh9 HC0
 clear HC0
 have hn : (0 : Int) < ((r.length + 1 : Nat) : Int) := by omega
 have hk2 : tk = 0 := hk
 have hz : (tk == 0) = true := by rw [hk2]; rfl
 have hl := Below.alloc (Below.refl W1.heap.size W1) (Nat.le_refl _) (.cells #[.int .i64 tk, .int .i64 tp, .string (BA tq), .string (BA tt), .string (BA td)] 157)
 have HB2 := qh9 (chain5 HB.out hl)
 clear hk hk2 hl
 go_wp2_with fail
 refine (reportP 11 _ _ g).mono ?_
 rintro e w2 ⟨rfl, hb⟩
 exact ⟨rfl, rfl, (But.of HB2.out).trans hb⟩
theorem takeOk (W0 w : World) (g : Nat) (l : List Sy.Pg) (lv : Value) (cur : ByteArray) (t : Tk) (r : List Tk) (h : Psr W0 w g l lv cur (t :: r)) (hk : t.k ≠ 0) (hr : r ≠ []) : Calls Tryz.prog 159 #[.pointer (some ⟨g, 0, none⟩)] w (fun e w' => e = .returned (tkV t) ∧ Psr W0 w' g l lv cur r ∧ But g w w') := by
 obtain ⟨tk, tp, tq, tt, td⟩ := t
 have HG := qh9 h.lt
 have HB := qh9 (show Below w.heap.size w (w.alloc (.cells #[.int .i64 0, .int .i64 0, .string ⟨#[]⟩, .string ⟨#[]⟩, .string ⟨#[]⟩] 157)) from Below.alloc (Below.refl _ _) (Nat.le_refl _) _)
 have HT := qh9 (TB.new w #[.int .i64 0, .int .i64 0, .string ⟨#[]⟩, .string ⟨#[]⟩, .string ⟨#[]⟩])
 have H1 := qh9 (h.keep HB.out)
 clear h
 go_enter Tryz.func159, Tryz.ntmps159
 go_upto_region 1 with fail
 generalize (w.alloc (.cells #[.int .i64 0, .int .i64 0, .string ⟨#[]⟩, .string ⟨#[]⟩, .string ⟨#[]⟩] 157)) = W1 at HB HT H1 ⊢
 obtain ⟨b, o, c, HC0⟩ := H1.out.open
 have c0 := HC0.c0
 have c1 := HC0.c1
 have c2 := HC0.c2
 have t0 := HC0.t0
 have t1 := HC0.t1
 have t2 := HC0.t2
 have t3 := HC0.t3
 have t4 := HC0.t4
 have hcr := HC0.hc
 have hcm := HC0.hm
 have cf := HC0.cf
 unfold maxLen at hcm
 have HC := qh9 HC0
 clear HC0
 have hn : (0 : Int) < ((r.length + 1 : Nat) : Int) := by omega
 have hz : (tk == 0) = false := by rw [beq_eq_false_iff_ne]; exact hk
 have hrl : 0 < r.length := List.length_pos_iff.2 hr
 have HR := qh9 hr
 clear hk hr
 go_upto_region 4 with fail
 have hl := qh9 (show Below W1.heap.size W1 (W1.alloc (.cells #[.int .i64 tk, .int .i64 tp, .string (BA tq), .string (BA tt), .string (BA td)] 157)) from Below.alloc (Below.refl _ _) (Nat.le_refl _) _)
 have HT2 := qh9 (TB.new W1 #[.int .i64 tk, .int .i64 tp, .string (BA tq), .string (BA tt), .string (BA td)])
 have HT1 := qh9 (HT.out.keep hl.out)
 have HB2 := qh9 (chain5 HB.out hl.out)
 have H2 := qh9 (H1.out.keep hl.out)
 have hgn := HT.out.lt
 obtain ⟨g3, hg3⟩ : ∃ g3, g3 = W1.heap.size := ⟨_, rfl⟩
 rw [← hg3] at HT2 hgn ⊢
 generalize W1.alloc (.cells #[.int .i64 tk, .int .i64 tp, .string (BA tq), .string (BA tt), .string (BA td)] 157) = W2 at HT2 HT1 HB2 H2 ⊢
 clear hl hg3 H1 HB HT HC c0 c1 c2 t0 t1 t2 t3 t4 hcr hcm cf
 obtain ⟨b, o, c, HC0⟩ := H2.out.open
 have c0 := HC0.c0
 have c1 := HC0.c1
 have c2 := HC0.c2
 have t0 := HC0.t0
 have t1 := HC0.t1
 have t2 := HC0.t2
 have t3 := HC0.t3
 have t4 := HC0.t4
 have hcr2 := HC0.hc
 have hcm2 := HC0.hm
 have cf := HC0.cf
 unfold maxLen at hcm2
 have HC := qh9 HC0
 clear HC0
 have m0 : (1 : Int) ≤ ((r.length + 1 : Nat) : Int) := by omega
 have m1 : (0 : Int) ≤ (1 : Int) ∧ (1 : Int) ≤ ((r.length + 1 : Nat) : Int) := by omega
 have m2 : (1 : Nat) < c := by omega
 have m3 : ¬ c = 1 := by omega
 go_upto_region 5 with fail
 have HP : Hid (Psr W0 (W2.setCell ⟨g, 2, none⟩ (.slice (some ⟨b, o + 5, none⟩) r.length (c - 1))) g l lv cur r) := HC.out.tl HR.out
 have HX1 := qh9 (HT1.out.but (But.set W2 (g := g) 2 (.slice (some ⟨b, o + 5, none⟩) r.length (c - 1))) (by have := HG.out; omega))
 have HX2 := qh9 (HT2.out.but (But.set W2 (g := g) 2 (.slice (some ⟨b, o + 5, none⟩) r.length (c - 1))) (by have := HG.out; omega))
 have HBt := qh9 ((But.of (g := g) HB2.out).trans (But.set W2 2 (.slice (some ⟨b, o + 5, none⟩) r.length (c - 1))))
 generalize W2.setCell ⟨g, 2, none⟩ (.slice (some ⟨b, o + 5, none⟩) r.length (c - 1)) = W3 at HP HX1 HX2 HBt ⊢
 clear HT1 HT2 HB2 H2 HC c0 c1 c2 t0 t1 t2 t3 t4 hcr2 hcm2 cf m0 m1 m2 m3
 go_wp2_with (first | (refine TB.load (t := ⟨tk, tp, tq, tt, td⟩) (.tmp 3) rfl rfl rfl HX2.out ?_) | (refine TB.store (.tmp 2) (.tmp 24) rfl rfl w.heap.size ⟨tk, tp, tq, tt, td⟩ _ rfl rfl rfl HX1.out ?_))
 exact retTk (t := ⟨tk, tp, tq, tt, td⟩) rfl rfl (HX1.out.set _) ⟨rfl, HP.out.row (by have := HG.out; omega) _, HBt.out.row (Nat.le_refl _) _⟩
def homeB (cur : ByteArray) (t : Tk) : ByteArray := if t.pkg = [] then cur else BA t.pkg
def symL (l : List Sy.Pg) (cur : ByteArray) (t : Tk) : (List UInt8 × List UInt8) × Int := ((LA (Sy.internM l (homeB cur t) (BA t.txt)).1.1, LA (Sy.internM l (homeB cur t) (BA t.txt)).1.2), (Sy.internM l (homeB cur t) (BA t.txt)).2)
def ObB (W : World) (g : Nat) (x : Array Value) : Prop := W.heap[g]? = some (.cells x 27 (0, 0))
theorem ObB.keep {W W' : World} {g : Nat} {x : Array Value} (h : ObB W g x) (hb : Below W.heap.size W W') : ObB W' g x := (hb.block g (Sy.blk_ltY h)).trans h
theorem SB.fr0 {W : World} {g : Nat} {x y : Value} (h : Sy.SB W g x y) : W.frozen? ⟨g, 0, none⟩ = false := by
 unfold Sy.SB at h
 simp [World.frozen?, h]
theorem SB.fr1 {W : World} {g : Nat} {x y : Value} (h : Sy.SB W g x y) : W.frozen? ⟨g, 1, none⟩ = false := by
 unfold Sy.SB at h
 simp [World.frozen?, h]
structure SymX (w W : World) (gs : Nat) (tk tp : Int) (tq tt td : List UInt8) (s1 s2 : ByteArray) : Prop where
 bel : Below w.heap.size w W
 t : TB W w.heap.size #[.int .i64 tk, .int .i64 tp, .string (BA tq), .string (BA tt), .string (BA td)]
 o : ObB W (w.heap.size + 1) #[.int .i64 0, .string ⟨#[]⟩, .string ⟨#[]⟩, .string ⟨#[]⟩, .string ⟨#[]⟩, .string ⟨#[]⟩, .slice none 0 0]
 s : Sy.SB W gs (.string s1) (.string s2)
theorem SymX.new {w W1 w9 : World} {tk tp : Int} {tq tt td : List UInt8} (hb : Below w.heap.size w W1) (ht : TB W1 w.heap.size #[.int .i64 tk, .int .i64 tp, .string (BA tq), .string (BA tt), .string (BA td)]) (ho : ObB W1 (w.heap.size + 1) #[.int .i64 0, .string ⟨#[]⟩, .string ⟨#[]⟩, .string ⟨#[]⟩, .string ⟨#[]⟩, .string ⟨#[]⟩, .slice none 0 0]) (h9 : Below W1.heap.size W1 w9) (s1 s2 : ByteArray) :
 SymX w (w9.alloc (.cells #[.string s1, .string s2] 24)) w9.heap.size tk tp tq tt td s1 s2 := by
 have ha := Below.alloc (Below.refl w9.heap.size w9) (Nat.le_refl _) (.cells #[.string s1, .string s2] 24)
 exact ⟨chain5 (chain5 hb h9) ha, (ht.keep h9).keep ha, (ho.keep h9).keep ha, Sy.SB.new _ _ _⟩
theorem SymX.old {w W1 w9 : World} {tk tp : Int} {tq tt td : List UInt8} (hb : Below w.heap.size w W1) (ht : TB W1 w.heap.size #[.int .i64 tk, .int .i64 tp, .string (BA tq), .string (BA tt), .string (BA td)]) (ho : ObB W1 (w.heap.size + 1) #[.int .i64 0, .string ⟨#[]⟩, .string ⟨#[]⟩, .string ⟨#[]⟩, .string ⟨#[]⟩, .string ⟨#[]⟩, .slice none 0 0]) (h9 : Below W1.heap.size W1 w9)
 {x y : Value} (hs : Sy.SB w9 W1.heap.size x y) (s1 s2 : ByteArray) :
 SymX w ((w9.setCell ⟨W1.heap.size, 0, none⟩ (.string s1)).setCell ⟨W1.heap.size, 1, none⟩ (.string s2)) W1.heap.size tk tp tq tt td s1 s2 := by
 have l1 := ht.lt
 have l2 := Sy.blk_ltY ho
 have hh : ∀ k, k ≠ W1.heap.size → ((w9.setCell ⟨W1.heap.size, 0, none⟩ (.string s1)).setCell ⟨W1.heap.size, 1, none⟩ (.string s2)).heap[k]? = w9.heap[k]? := fun k hk => (Below.heap_setCell _ ⟨W1.heap.size, 1, none⟩ _ k hk).trans (Below.heap_setCell _ ⟨W1.heap.size, 0, none⟩ _ k hk)
 refine ⟨((chain5 hb h9).setCell (by show w.heap.size ≤ W1.heap.size; omega) _).setCell (by show w.heap.size ≤ W1.heap.size; omega) _, (hh _ (by omega)).trans (ht.keep h9), (hh _ (by omega)).trans (ho.keep h9), ?_⟩
 unfold Sy.SB at hs ⊢
 simp [World.setCell, Array.getElem?_modify, hs]
def OutY (w : World) (m : (List UInt8 × List UInt8) × Int) (p : Int) (e : Ending) (w' : World) : Prop := Below w.heap.size w w' ∧
 if m.2 = 0 then e = .returned (vO (.sym m.1.1 m.1.2) (.slice none 0 0)) else e = .panicked [{ v := errV m.2 p, recovered := false }]
theorem OutY.ok_ {w w' : World} {a b : List UInt8} {p : Int} (h : Below w.heap.size w w') : OutY w ((a, b), 0) p (.returned (vO (.sym a b) (.slice none 0 0))) w' := ⟨h, by rw [if_pos rfl]⟩
theorem OutY.bad_ {w w' : World} {a : List UInt8 × List UInt8} {x p : Int} (h : Below w.heap.size w w') (hx : ¬ x = 0) : OutY w (a, x) p (.panicked [{ v := errV x p, recovered := false }]) w' := ⟨h, by rw [if_neg hx]⟩
theorem symbolPs (W0 w : World) (g : Nat) (l : List Sy.Pg) (lv : Value) (cur : ByteArray) (ts : List Tk) (tk tp : Int) (tq tt td : List UInt8) (h : Psr W0 w g l lv cur ts) (hts : ts ≠ []) (hl : l.length ≤ 1000000) (hi : ∀ p ∈ l, p.2.length ≤ 1000000) :
 Calls Tryz.prog 161 #[.pointer (some ⟨g, 0, none⟩), .agg #[.int .i64 tk, .int .i64 tp, .string (BA tq), .string (BA tt), .string (BA td)]] w (OutY w (symL l cur ⟨tk, tp, tq, tt, td⟩) tp) := by
 obtain ⟨t0, r, rfl⟩ : ∃ t0 r, ts = t0 :: r := by
  cases ts with
  | nil => exact absurd rfl hts
  | cons a b => exact ⟨a, b, rfl⟩
 have HG := qh9 h.lt
 have HB := qh9 (al2 w (.cells #[.int .i64 tk, .int .i64 tp, .string (BA tq), .string (BA tt), .string (BA td)] 157) (.cells #[.int .i64 0, .string ⟨#[]⟩, .string ⟨#[]⟩, .string ⟨#[]⟩, .string ⟨#[]⟩, .string ⟨#[]⟩, .slice none 0 0] 27))
 have HT : Hid (TB ((w.alloc (.cells #[.int .i64 tk, .int .i64 tp, .string (BA tq), .string (BA tt), .string (BA td)] 157)).alloc (.cells #[.int .i64 0, .string ⟨#[]⟩, .string ⟨#[]⟩, .string ⟨#[]⟩, .string ⟨#[]⟩, .string ⟨#[]⟩, .slice none 0 0] 27)) w.heap.size #[.int .i64 tk, .int .i64 tp, .string (BA tq), .string (BA tt), .string (BA td)]) := heap_old1 _ _ _
 have HO : Hid (ObB ((w.alloc (.cells #[.int .i64 tk, .int .i64 tp, .string (BA tq), .string (BA tt), .string (BA td)] 157)).alloc (.cells #[.int .i64 0, .string ⟨#[]⟩, .string ⟨#[]⟩, .string ⟨#[]⟩, .string ⟨#[]⟩, .string ⟨#[]⟩, .slice none 0 0] 27)) (w.heap.size + 1) #[.int .i64 0, .string ⟨#[]⟩, .string ⟨#[]⟩, .string ⟨#[]⟩, .string ⟨#[]⟩, .string ⟨#[]⟩, .slice none 0 0]) := by
  show ObB _ _ _
  have := heap_alloc_new (w.alloc (.cells #[.int .i64 tk, .int .i64 tp, .string (BA tq), .string (BA tt), .string (BA td)] 157)) (.cells #[.int .i64 0, .string ⟨#[]⟩, .string ⟨#[]⟩, .string ⟨#[]⟩, .string ⟨#[]⟩, .string ⟨#[]⟩, .slice none 0 0] 27)
  unfold ObB
  simpa using this
 have H1 := qh9 (h.keep HB.out)
 have HL : Hid (Sy.PgV W0 l lv ∧ W0.heap.size ≤ g ∧ l.length ≤ 1000000 ∧ (∀ p ∈ l, p.2.length ≤ 1000000)) := by
  obtain ⟨tv, _, h2, _, h4, _⟩ := h
  exact ⟨h4, h2, hl, hi⟩
 clear h hts hl hi
 obtain ⟨hm, hhm⟩ : ∃ hm, homeB cur ⟨tk, tp, tq, tt, td⟩ = hm := ⟨_, rfl⟩
 obtain ⟨sy, hsy⟩ : ∃ sy, Sy.internM l hm (BA tt) = sy := ⟨_, rfl⟩
 obtain ⟨⟨s1, s2⟩, er⟩ := sy
 have hS : symL l cur ⟨tk, tp, tq, tt, td⟩ = ((LA s1, LA s2), er) := by
  unfold symL
  rw [hhm]
  show ((LA (Sy.internM l hm (BA tt)).1.1, LA (Sy.internM l hm (BA tt)).1.2), (Sy.internM l hm (BA tt)).2) = _
  rw [hsy]
 rw [hS]
 have HHM := qh9 hhm
 have HI : Hid (∀ (W1 W2 : World), Psr W0 W1 g l lv cur (t0 :: r) → Below W1.heap.size W1 W2 → Calls Tryz.prog 218 #[lv, .string hm, .string (BA tt)] W2 (Sy.RetN W2 ((s1, s2), er))) := fun W1 W2 hp hb => hsy ▸ Sy.internY l lv hm (BA tt) W2 ((HL.out.1.keep (by obtain ⟨tv, _, _, h3, _⟩ := hp; exact h3)).keep hb) HL.out.2.2.1 HL.out.2.2.2
 clear hS hsy hhm
 by_cases hq : tq = []
 · have e2 : (BA tq).toList.isEmpty = true := by rw [ba_empty]; exact decide_eq_true hq
   obtain rfl : cur = hm := (if_pos hq).symm.trans HHM.out
   clear hq HHM
   go_enter Tryz.func161, Tryz.ntmps161
   go_upto_region 1 with fail
   generalize ((w.alloc (.cells #[.int .i64 tk, .int .i64 tp, .string (BA tq), .string (BA tt), .string (BA td)] 157)).alloc (.cells #[.int .i64 0, .string ⟨#[]⟩, .string ⟨#[]⟩, .string ⟨#[]⟩, .string ⟨#[]⟩, .string ⟨#[]⟩, .slice none 0 0] 27)) = W1 at HB HT HO H1 ⊢
   obtain ⟨b, o, c, HC0⟩ := H1.out.open
   have c0 := HC0.c0
   have c1 := HC0.c1
   have c2 := HC0.c2
   have t0 := HC0.t0
   have t1 := HC0.t1
   have t2 := HC0.t2
   have t3 := HC0.t3
   have t4 := HC0.t4
   have hcr := HC0.hc
   have hcm := HC0.hm
   have cf := HC0.cf
   unfold maxLen at hcm
   have HC := qh9 HC0
   clear HC0
   have q1 : W1.cell? ⟨w.heap.size, 1, none⟩ = some (.int .i64 tp) := by rw [cell_of_row _ _ _ _ _ _ HT.out]; rfl
   have q2 : W1.cell? ⟨w.heap.size, 2, none⟩ = some (.string (BA tq)) := by rw [cell_of_row _ _ _ _ _ _ HT.out]; rfl
   have q3 : W1.cell? ⟨w.heap.size, 3, none⟩ = some (.string (BA tt)) := by rw [cell_of_row _ _ _ _ _ _ HT.out]; rfl
   go_upto_region 4 with fail
   have KI := qh9 (fun W2 hb => HI.out W1 W2 H1.out hb)
   have d0 : W1.drew.cell? ⟨g, 0, none⟩ = some lv := c0
   have d3 : W1.drew.cell? ⟨w.heap.size, 3, none⟩ = some (.string (BA tt)) := q3
   have a0 : (W1.alloc (.cells #[.string ⟨#[]⟩, .string ⟨#[]⟩] 24)).drew.cell? ⟨g, 0, none⟩ = some lv := ((Below.alloc (Below.refl W1.heap.size W1) (Nat.le_refl _) _).cell (p := ⟨g, 0, none⟩) H1.out.lt).trans c0
   have a3 : (W1.alloc (.cells #[.string ⟨#[]⟩, .string ⟨#[]⟩] 24)).drew.cell? ⟨w.heap.size, 3, none⟩ = some (.string (BA tt)) := ((Below.alloc (Below.refl W1.heap.size W1) (Nat.le_refl _) _).cell (p := ⟨w.heap.size, 3, none⟩) HT.out.lt).trans q3
   have l1 := H1.out.lt
   have l2 := HT.out.lt
   go_wp2_with fail
   go_region_with (go_at_call 218; refine (KI.out _ ?_).mono ?_; (first | exact Below.drew (Below.refl _ _) | exact Below.alloc (Below.drew (Below.refl _ _)) (Nat.le_refl _) _); rintro e w9 ⟨rfl, hb⟩; have HB9 : Hid (Below W1.heap.size W1 w9) := (by first | exact chain5 (Below.drew (Below.refl _ _)) hb | exact chain5 (Below.alloc (Below.drew (Below.refl _ _)) (Nat.le_refl _) _) hb); (try (have HS9 : Hid (Sy.SB w9 W1.heap.size (.string ⟨#[]⟩) (.string ⟨#[]⟩)) := Sy.SB.keep (Sy.SB.new W1.drew (.string ⟨#[]⟩) (.string ⟨#[]⟩)) hb; have s0 := HS9.out.c0; have s1' := HS9.out.c1; have sf0 := SB.fr0 HS9.out; have sf1 := SB.fr1 HS9.out)))
   all_goals
    clear q1 q2 q3 d0 d3 a0 a3 c0 c1 c2 t0 t1 t2 t3 t4 cf hcr hcm l1 l2 HC
    first
    | (obtain ⟨W5, hW5⟩ : ∃ W5, w9.alloc (.cells #[.string s1, .string s2] 24) = W5 := ⟨_, rfl⟩
       rw [hW5]
       have HX : Hid (SymX w W5 w9.heap.size tk tp tq tt td s1 s2) := hW5 ▸ SymX.new HB.out HT.out HO.out HB9.out s1 s2
       clear hW5
       generalize w9.heap.size = gs at HX ⊢)
    | (obtain ⟨W5, hW5⟩ : ∃ W5, (w9.setCell ⟨W1.heap.size, 0, none⟩ (.string s1)).setCell ⟨W1.heap.size, 1, none⟩ (.string s2) = W5 := ⟨_, rfl⟩
       rw [hW5]
       have HX : Hid (SymX w W5 W1.heap.size tk tp tq tt td s1 s2) := hW5 ▸ SymX.old HB.out HT.out HO.out HB9.out HS9.out s1 s2
       clear hW5 s0 s1' sf0 sf1 HS9
       generalize W1.heap.size = gs at HX ⊢)
   all_goals
    by_cases her : er = 0
    · subst her
      have x0 := HX.out.s.c0
      have x1 := HX.out.s.c1
      go_wp2_with fail
      refine (symP s1 s2 _ (fun _ => False)).mono ?_
      rintro e w8 ⟨pp, rfl, hpp, hb8⟩
      obtain rfl := hpp.flat rfl
      have HO8 := qh9 (HX.out.o.keep hb8)
      have HB8 := qh9 (chain5 HX.out.bel hb8)
      clear hb8 hpp x0 x1
      go_wp2_with (refine storeV (w1 := w8) (S := fun _ => False) rfl (.tmp 4) (.tmp 34) rfl (w.heap.size + 1) (.sym (LA s1) (LA s2)) (.slice none 0 0) rfl rfl rfl 27 _ HO8.out rfl ?_)
      exact retO (t := 27) (cs := (cellsO (.sym (LA s1) (LA s2)) (.slice none 0 0)).toArray) rfl rfl (setRow_heap _ _ _ _ _ _ HO8.out) rfl (OutY.ok_ (bel_set _ HB8.out (Nat.le_succ _)))
    · have hz : (er != 0) = true := by rw [bne_iff_ne]; exact her
      have HER := qh9 her
      clear her
      have x1 : W5.cell? ⟨w.heap.size, 1, none⟩ = some (.int .i64 tp) := by rw [cell_of_row _ _ _ _ _ _ HX.out.t]; rfl
      go_wp2_with fail
      refine (reportB er tp _).mono ?_
      rintro e w8 ⟨rfl, rfl⟩
      exact ⟨rfl, OutY.bad_ HX.out.bel HER.out⟩
 · have e2 : (BA tq).toList.isEmpty = false := by rw [ba_empty]; exact decide_eq_false hq
   obtain rfl : BA tq = hm := (if_neg hq).symm.trans HHM.out
   clear hq HHM
   go_enter Tryz.func161, Tryz.ntmps161
   go_upto_region 1 with fail
   generalize ((w.alloc (.cells #[.int .i64 tk, .int .i64 tp, .string (BA tq), .string (BA tt), .string (BA td)] 157)).alloc (.cells #[.int .i64 0, .string ⟨#[]⟩, .string ⟨#[]⟩, .string ⟨#[]⟩, .string ⟨#[]⟩, .string ⟨#[]⟩, .slice none 0 0] 27)) = W1 at HB HT HO H1 ⊢
   obtain ⟨b, o, c, HC0⟩ := H1.out.open
   have c0 := HC0.c0
   have c1 := HC0.c1
   have c2 := HC0.c2
   have t0 := HC0.t0
   have t1 := HC0.t1
   have t2 := HC0.t2
   have t3 := HC0.t3
   have t4 := HC0.t4
   have hcr := HC0.hc
   have hcm := HC0.hm
   have cf := HC0.cf
   unfold maxLen at hcm
   have HC := qh9 HC0
   clear HC0
   have q1 : W1.cell? ⟨w.heap.size, 1, none⟩ = some (.int .i64 tp) := by rw [cell_of_row _ _ _ _ _ _ HT.out]; rfl
   have q2 : W1.cell? ⟨w.heap.size, 2, none⟩ = some (.string (BA tq)) := by rw [cell_of_row _ _ _ _ _ _ HT.out]; rfl
   have q3 : W1.cell? ⟨w.heap.size, 3, none⟩ = some (.string (BA tt)) := by rw [cell_of_row _ _ _ _ _ _ HT.out]; rfl
   go_upto_region 4 with fail
   have KI := qh9 (fun W2 hb => HI.out W1 W2 H1.out hb)
   have d0 : W1.drew.cell? ⟨g, 0, none⟩ = some lv := c0
   have d3 : W1.drew.cell? ⟨w.heap.size, 3, none⟩ = some (.string (BA tt)) := q3
   have a0 : (W1.alloc (.cells #[.string ⟨#[]⟩, .string ⟨#[]⟩] 24)).drew.cell? ⟨g, 0, none⟩ = some lv := ((Below.alloc (Below.refl W1.heap.size W1) (Nat.le_refl _) _).cell (p := ⟨g, 0, none⟩) H1.out.lt).trans c0
   have a3 : (W1.alloc (.cells #[.string ⟨#[]⟩, .string ⟨#[]⟩] 24)).drew.cell? ⟨w.heap.size, 3, none⟩ = some (.string (BA tt)) := ((Below.alloc (Below.refl W1.heap.size W1) (Nat.le_refl _) _).cell (p := ⟨w.heap.size, 3, none⟩) HT.out.lt).trans q3
   have l1 := H1.out.lt
   have l2 := HT.out.lt
   go_wp2_with fail
   go_region_with (go_at_call 218; refine (KI.out _ ?_).mono ?_; (first | exact Below.drew (Below.refl _ _) | exact Below.alloc (Below.drew (Below.refl _ _)) (Nat.le_refl _) _); rintro e w9 ⟨rfl, hb⟩; have HB9 : Hid (Below W1.heap.size W1 w9) := (by first | exact chain5 (Below.drew (Below.refl _ _)) hb | exact chain5 (Below.alloc (Below.drew (Below.refl _ _)) (Nat.le_refl _) _) hb); (try (have HS9 : Hid (Sy.SB w9 W1.heap.size (.string ⟨#[]⟩) (.string ⟨#[]⟩)) := Sy.SB.keep (Sy.SB.new W1.drew (.string ⟨#[]⟩) (.string ⟨#[]⟩)) hb; have s0 := HS9.out.c0; have s1' := HS9.out.c1; have sf0 := SB.fr0 HS9.out; have sf1 := SB.fr1 HS9.out)))
   all_goals
    clear q1 q2 q3 d0 d3 a0 a3 c0 c1 c2 t0 t1 t2 t3 t4 cf hcr hcm l1 l2 HC
    first
    | (obtain ⟨W5, hW5⟩ : ∃ W5, w9.alloc (.cells #[.string s1, .string s2] 24) = W5 := ⟨_, rfl⟩
       rw [hW5]
       have HX : Hid (SymX w W5 w9.heap.size tk tp tq tt td s1 s2) := hW5 ▸ SymX.new HB.out HT.out HO.out HB9.out s1 s2
       clear hW5
       generalize w9.heap.size = gs at HX ⊢)
    | (obtain ⟨W5, hW5⟩ : ∃ W5, (w9.setCell ⟨W1.heap.size, 0, none⟩ (.string s1)).setCell ⟨W1.heap.size, 1, none⟩ (.string s2) = W5 := ⟨_, rfl⟩
       rw [hW5]
       have HX : Hid (SymX w W5 W1.heap.size tk tp tq tt td s1 s2) := hW5 ▸ SymX.old HB.out HT.out HO.out HB9.out HS9.out s1 s2
       clear hW5 s0 s1' sf0 sf1 HS9
       generalize W1.heap.size = gs at HX ⊢)
   all_goals
    by_cases her : er = 0
    · subst her
      have x0 := HX.out.s.c0
      have x1 := HX.out.s.c1
      go_wp2_with fail
      refine (symP s1 s2 _ (fun _ => False)).mono ?_
      rintro e w8 ⟨pp, rfl, hpp, hb8⟩
      obtain rfl := hpp.flat rfl
      have HO8 := qh9 (HX.out.o.keep hb8)
      have HB8 := qh9 (chain5 HX.out.bel hb8)
      clear hb8 hpp x0 x1
      go_wp2_with (refine storeV (w1 := w8) (S := fun _ => False) rfl (.tmp 4) (.tmp 34) rfl (w.heap.size + 1) (.sym (LA s1) (LA s2)) (.slice none 0 0) rfl rfl rfl 27 _ HO8.out rfl ?_)
      exact retO (t := 27) (cs := (cellsO (.sym (LA s1) (LA s2)) (.slice none 0 0)).toArray) rfl rfl (setRow_heap _ _ _ _ _ _ HO8.out) rfl (OutY.ok_ (bel_set _ HB8.out (Nat.le_succ _)))
    · have hz : (er != 0) = true := by rw [bne_iff_ne]; exact her
      have HER := qh9 her
      clear her
      have x1 : W5.cell? ⟨w.heap.size, 1, none⟩ = some (.int .i64 tp) := by rw [cell_of_row _ _ _ _ _ _ HX.out.t]; rfl
      go_wp2_with fail
      refine (reportB er tp _).mono ?_
      rintro e w8 ⟨rfl, rfl⟩
      exact ⟨rfl, OutY.bad_ HX.out.bel HER.out⟩
/-- The text of a symbol in a package. -/
def nmU (l : List Sy.Pg) (cur : ByteArray) (p n : List UInt8) : List UInt8 := if Sy.visM l cur (BA p, BA n) then wordS n false else p ++ 58 :: 58 :: wordS n true
def kpS (l : List Sy.Pg) (cur : ByteArray) (p n : List UInt8) : List UInt8 := if Sy.visM l cur (BA p, BA n) then [] else p
theorem okU_con {c : UInt8} (h : Sy.okU c = true) : conB c = true := by
 have key : ∀ k : Nat, k < 256 → Sy.okU (UInt8.ofNat k) = true → conB (UInt8.ofNat k) = true := by
  have : ∀ k : Fin 256, Sy.okU (UInt8.ofNat k.1) = true → conB (UInt8.ofNat k.1) = true := by decide
  exact fun k hk => this ⟨k, hk⟩
 have e : UInt8.ofNat c.toNat = c := by simp
 have hl := c.toNat_lt
 rw [← e] at h ⊢
 exact key c.toNat hl h
theorem bl_BA (l : List UInt8) : Sy.bl (BA l) = l := rfl
theorem pkgOk_facts {p : List UInt8} (h : Sy.pkgOk (BA p) = true) : p ≠ [] ∧ p.all conB = true ∧ p.length ≤ 40 := by
 unfold Sy.pkgOk Sy.nameOk at h
 simp only [Bool.and_eq_true, decide_eq_true_eq, bl_BA] at h
 obtain ⟨⟨h1, h2⟩, h3, h4⟩ := h
 rw [BA_size] at h1 h2
 refine ⟨?_, ?_, h2⟩
 · intro e; rw [e] at h1; simp at h1
 · rw [List.all_eq_true] at h4 ⊢
   exact fun c hc => okU_con (h4 c hc)
theorem nameOk_facts {n : List UInt8} (h : Sy.nameOk (BA n) = true) : n ≠ [] ∧ n.length ≤ 40 := by
 unfold Sy.nameOk at h
 simp only [Bool.and_eq_true, decide_eq_true_eq] at h
 rw [BA_size] at h
 refine ⟨?_, h.2⟩
 intro e; rw [e] at h; simp at h
theorem sym_rd (l : List Sy.Pg) (cur : ByteArray) (n : Nat) (p m : List UInt8) (h : Sy.symOk (BA p) (BA m) = true) : SymRd (nmU l cur) (kpS l cur) n p m := by
 unfold Sy.symOk at h
 rw [Bool.and_eq_true] at h
 obtain ⟨p1, p2, _⟩ := pkgOk_facts h.1
 obtain ⟨m1, m2⟩ := nameOk_facts h.2
 intro r hr
 unfold nmU kpS
 cases Sy.visM l cur (BA p, BA m) with
 | true => exact begins_plain n m r m1 m2 hr
 | false => exact begins_qual n p m r p1 p2 h.1 m1 m2 hr
theorem beq_LA {s t : ByteArray} (h : (s.toList == t.toList) = true) : LA s = LA t := by
 have := eq_of_beq h
 rw [Lib.toList_data, Lib.toList_data] at this
 exact this
theorem visM_spec {l : List Sy.Pg} {cur : ByteArray} {s : Sy.Sy} (h : Sy.visM l cur s = true) : (Sy.internM l cur s.2).2 = 0 ∧ LA (Sy.internM l cur s.2).1.1 = LA s.1 ∧ LA (Sy.internM l cur s.2).1.2 = LA s.2 := by
 unfold Sy.visM at h
 simp only [Bool.and_eq_true] at h
 exact ⟨eq_of_beq h.1, beq_LA h.2.1, beq_LA h.2.2⟩
theorem sym_of (l : List Sy.Pg) (cur : ByteArray) (p m : List UInt8) (h : Sy.symOk (BA p) (BA m) = true) (hh : Sy.homeM l (BA p, BA m) = true) : SymOf (kpS l cur) (symL l cur) p m := by
 unfold Sy.symOk at h
 rw [Bool.and_eq_true] at h
 obtain ⟨p1, _, _⟩ := pkgOk_facts h.1
 intro t ht
 obtain ⟨_, k2, k3, _⟩ := Tk.key_k ht
 unfold symL
 rw [k3]
 have main : ∀ c : ByteArray, Sy.visM l c (BA p, BA m) = true → ((LA (Sy.internM l c (BA m)).1.1, LA (Sy.internM l c (BA m)).1.2), (Sy.internM l c (BA m)).2) = ((p, m), (0 : Int)) := fun c hv => by
  obtain ⟨a1, a2, a3⟩ := visM_spec hv
  have a2' : LA (Sy.internM l c (BA m)).1.1 = p := a2
  have a3' : LA (Sy.internM l c (BA m)).1.2 = m := a3
  have a1' : (Sy.internM l c (BA m)).2 = 0 := a1
  rw [a1', a2', a3']
 unfold homeB
 rw [k2]
 unfold kpS
 cases hv : Sy.visM l cur (BA p, BA m) with
 | true =>
  rw [show (if true = true then ([] : List UInt8) else p) = [] from rfl, if_pos rfl]
  exact main cur hv
 | false =>
  rw [show (if false = true then ([] : List UInt8) else p) = p from rfl, if_neg p1]
  exact main (BA p) hh
/-- An object that can be printed: valid, its symbols at home. -/
def PrOkU (l : List Sy.Pg) : Ob → Prop
 | .num q => NumOk q
 | .str s => s.length ≤ 200
 | .sym p n => Sy.symOk (BA p) (BA n) = true ∧ Sy.homeM l (BA p, BA n) = true
 | .cons a d => PrOkU l a ∧ PrOkU l d
theorem prOk_rd (l : List Sy.Pg) (cur : ByteArray) (n : Nat) : ∀ {o : Ob}, PrOkU l o → OkP (SymRd (nmU l cur) (kpS l cur) n) o
 | .num q, h => h
 | .str s, h => h
 | .sym p m, h => sym_rd l cur n p m h.1
 | .cons a d, h => ⟨prOk_rd l cur n h.1, prOk_rd l cur n h.2⟩
theorem prOk_of (l : List Sy.Pg) (cur : ByteArray) : ∀ {o : Ob}, PrOkU l o → OkP (SymOf (kpS l cur) (symL l cur)) o
 | .num q, h => h
 | .str s, h => h
 | .sym p m, h => sym_of l cur p m h.1 h.2
 | .cons a d, h => ⟨prOk_of l cur h.1, prOk_of l cur h.2⟩
theorem encL_bad (n : Nat) (m : UInt8) : ∀ (l acc : List UInt8) (e p : Int), encL n m acc l = .bad e p → e ≠ 0
 | [], acc, e, p, h => by simp [encL] at h; omega
 | [c], acc, e, p, h => by
  rw [encL] at h
  split at h
  · simp at h
  · split at h
    · simp at h; omega
    · simp [encL] at h; omega
 | c :: d :: l', acc, e, p, h => by
  rw [encL] at h
  split at h
  · simp at h
  · split at h
    · split at h
      · exact encL_bad n m l' _ _ _ h
      · simp at h; omega
    · exact encL_bad n m (d :: l') _ _ _ h
section
variable (ok : List UInt8 → Bool) (num : Bool → List UInt8 → List UInt8 → List UInt8 × List UInt8) (size : List UInt8 → Nat)
theorem symT_bad {p : Int} {pkg name r : List UInt8} {e q : Int} (h : symT ok p pkg name r = .bad e q) : e ≠ 0 := by
 unfold symT at h
 repeat' split at h
 all_goals simp at h
 all_goals omega
theorem numT_bad {p : Int} {b : Bool} {x y r : List UInt8} {e q : Int} (h : numT num size p b x y r = .bad e q) : e ≠ 0 := by
 unfold numT at h
 repeat' split at h
 all_goals simp at h
 all_goals omega
theorem nameL_bad {n : Nat} {l : List UInt8} {e q : Int} (h : nameL n l = .bad e q) : e ≠ 0 := by
 cases l with
 | nil => simp [nameL] at h; omega
 | cons c l =>
  rw [nameL] at h
  split at h
  · exact encL_bad _ _ _ _ _ _ h
  · split at h
    · simp at h
    · simp at h; omega
theorem oneL_bad {n : Nat} {c : UInt8} {l : List UInt8} {e q : Int} (h : oneL ok num size n c l = .bad e q) : e ≠ 0 := by
 unfold oneL at h
 split at h
 · simp at h
 split at h
 · simp at h
 split at h
 · simp at h
 split at h
 · split at h
   · rename_i he
     simp at h
     have := encL_bad _ _ _ _ _ _ he
     omega
   · split at h
     · simp at h; omega
     · simp at h
 split at h
 · split at h
   · rename_i he
     simp at h
     have := encL_bad _ _ _ _ _ _ he
     omega
   · exact symT_bad ok h
 split at h
 · unfold wordT at h
   split at h
   · split at h
     · rename_i he
       simp at h
       have := nameL_bad he
       omega
     · exact symT_bad ok h
   · split at h
     · simp at h
     · split at h
       · exact numT_bad num size h
       · exact symT_bad ok h
 · simp at h; omega
theorem toksL_bad (n : Nat) : ∀ (k : Nat) (l : List UInt8) (x : Int × Int), l.length ≤ k → toksL ok num size n l = .error x → x.1 ≠ 0
 | k, l, x, hk, h => by
  rw [toksL_eq] at h
  cases hs : skipL l with
  | none => rw [hs] at h; simp at h; rw [← h]; show (11 : Int) ≠ 0; decide
  | some r =>
   rw [hs] at h
   cases r with
   | nil => simp at h
   | cons c l' =>
    simp only at h
    have h1 := skipL_le hs
    simp only [List.length_cons] at h1
    cases ho : oneL ok num size n c l' with
    | bad e p =>
     rw [ho] at h
     simp at h
     rw [← h]
     exact oneL_bad ok num size ho
    | ok t r =>
     rw [ho] at h
     simp only at h
     have h2 := oneL_le ok num size ho
     cases hr : toksL ok num size n r with
     | ok ts => rw [hr] at h; simp at h
     | error y =>
      rw [hr] at h
      simp at h
      rw [← h]
      cases k with
      | zero => omega
      | succ k => exact toksL_bad n k r y (by omega) hr
theorem toksL_ne {n : Nat} {l : List UInt8} {ts : List Tk} (h : toksL ok num size n l = .ok ts) : ts ≠ [] := by
 rw [toksL_eq] at h
 rintro rfl
 cases hs : skipL l with
 | none => rw [hs] at h; simp at h
 | some r =>
  rw [hs] at h
  cases r with
  | nil => simp at h
  | cons c l' =>
   simp only at h
   cases ho : oneL ok num size n c l' with
   | bad e p => rw [ho] at h; simp at h
   | ok t r =>
    rw [ho] at h
    simp only at h
    cases hr : toksL ok num size n r with
    | ok ts => rw [hr] at h; simp at h
    | error y => rw [hr] at h; simp at h
end
theorem isLetterP (c : Int) (h1 : 97 ≤ c) (h2 : c ≤ 122) (w : World) : Calls Tryz.prog 255 #[.int .u8 c] w fun e w' => e = .returned (.bool true) ∧ w = w' := by
 go_enter Tryz.func255, Tryz.ntmps255
 go_wp2
 go_ret
 exact ⟨rfl, rfl⟩
theorem isNameP (s : ByteArray) (h1 : 1 ≤ s.size) (h2 : s.size ≤ 40) (w : World) : Calls Tryz.prog 224 #[.string s] w fun e w' => e = .returned (.bool true) ∧ w = w' := by
 have h3 : (1 : Int) ≤ (s.size : Int) := by omega
 have h4 : (s.size : Int) ≤ 40 := by omega
 go_enter Tryz.func224, Tryz.ntmps224
 go_wp2
 go_ret
 exact ⟨rfl, rfl⟩
theorem isPackageP (w : World) : Calls Tryz.prog 223 #[.string (BA lispB)] w fun e w' => e = .returned (.bool true) ∧ w = w' := by
 show Calls _ _ #[.string ⟨#[108, 105, 115, 112]⟩] _ _
 go_enter Tryz.func223, Tryz.ntmps223
 go_wp2_with fail
 refine (isNameP ⟨#[108, 105, 115, 112]⟩ (by decide) (by decide) _).mono ?_
 rintro e w' ⟨rfl, rfl⟩
 go_wp2_with fail
 refine (isLetterP 108 (by decide) (by decide) _).mono ?_
 rintro e w' ⟨rfl, rfl⟩
 go_wp2_with fail
 go_loop [15] (fun v => ∃ i : Nat, i ≤ 4 ∧ v = .int .i64 i) (fun v => 4 - (intOf v).toNat)
 case atStart => exact ⟨0, by omega, rfl⟩
 case round =>
  obtain ⟨i, hi, rfl⟩ := hrel
  have h5 : i = 0 ∨ i = 1 ∨ i = 2 ∨ i = 3 ∨ i = 4 := by omega
  rcases h5 with rfl | rfl | rfl | rfl | rfl
  · go_wp2_with fail
    refine (isLetterP 108 (by decide) (by decide) _).mono ?_
    rintro e w' ⟨rfl, rfl⟩
    go_wp2
    go_round
    case rel => exact ⟨1, by omega, rfl⟩
    case measure => simp [intOf]
  · go_wp2_with fail
    refine (isLetterP 105 (by decide) (by decide) _).mono ?_
    rintro e w' ⟨rfl, rfl⟩
    go_wp2
    go_round
    case rel => exact ⟨2, by omega, rfl⟩
    case measure => simp [intOf]
  · go_wp2_with fail
    refine (isLetterP 115 (by decide) (by decide) _).mono ?_
    rintro e w' ⟨rfl, rfl⟩
    go_wp2
    go_round
    case rel => exact ⟨3, by omega, rfl⟩
    case measure => simp [intOf]
  · go_wp2_with fail
    refine (isLetterP 112 (by decide) (by decide) _).mono ?_
    rintro e w' ⟨rfl, rfl⟩
    go_wp2
    go_round
    case rel => exact ⟨4, by omega, rfl⟩
    case measure => simp [intOf]
  · go_wp2
    go_ret
    exact ⟨rfl, rfl⟩
theorem isPackageU (w : World) : Calls Tryz.prog 223 #[.string (BA userB)] w fun e w' => e = .returned (.bool true) ∧ w = w' := by
 show Calls _ _ #[.string ⟨#[117, 115, 101, 114]⟩] _ _
 go_enter Tryz.func223, Tryz.ntmps223
 go_wp2_with fail
 refine (isNameP ⟨#[117, 115, 101, 114]⟩ (by decide) (by decide) _).mono ?_
 rintro e w' ⟨rfl, rfl⟩
 go_wp2_with fail
 refine (isLetterP 117 (by decide) (by decide) _).mono ?_
 rintro e w' ⟨rfl, rfl⟩
 go_wp2_with fail
 go_loop [15] (fun v => ∃ i : Nat, i ≤ 4 ∧ v = .int .i64 i) (fun v => 4 - (intOf v).toNat)
 case atStart => exact ⟨0, by omega, rfl⟩
 case round =>
  obtain ⟨i, hi, rfl⟩ := hrel
  have h5 : i = 0 ∨ i = 1 ∨ i = 2 ∨ i = 3 ∨ i = 4 := by omega
  rcases h5 with rfl | rfl | rfl | rfl | rfl
  · go_wp2_with fail
    refine (isLetterP 117 (by decide) (by decide) _).mono ?_
    rintro e w' ⟨rfl, rfl⟩
    go_wp2
    go_round
    case rel => exact ⟨1, by omega, rfl⟩
    case measure => simp [intOf]
  · go_wp2_with fail
    refine (isLetterP 115 (by decide) (by decide) _).mono ?_
    rintro e w' ⟨rfl, rfl⟩
    go_wp2
    go_round
    case rel => exact ⟨2, by omega, rfl⟩
    case measure => simp [intOf]
  · go_wp2_with fail
    refine (isLetterP 101 (by decide) (by decide) _).mono ?_
    rintro e w' ⟨rfl, rfl⟩
    go_wp2
    go_round
    case rel => exact ⟨3, by omega, rfl⟩
    case measure => simp [intOf]
  · go_wp2_with fail
    refine (isLetterP 114 (by decide) (by decide) _).mono ?_
    rintro e w' ⟨rfl, rfl⟩
    go_wp2
    go_round
    case rel => exact ⟨4, by omega, rfl⟩
    case measure => simp [intOf]
  · go_wp2
    go_ret
    exact ⟨rfl, rfl⟩
theorem isShortP (x : Int) (h : x.natAbs < 10 ^ 90) (w : World) : Calls Tryz.prog 252 #[.string (BA (text x))] w fun e w' => e = .returned (.bool true) ∧ w = w' := by
 have hl := text_length (x := x) (k := 90) h
 have hs : (BA (text x)).size ≤ 92 := by rw [BA_size]; exact hl
 have hv : valid (LA (BA (text x))) = true := by rw [LA_BA]; exact valid_text x
 have hd : ((body (LA (BA (text x)))).length : Int) ≤ 100 := by
  unfold body
  rw [hv, LA_BA]
  have := strip_length (text x)
  simp only [if_true]
  omega
 have V : Hid (∀ w, Calls Tryz.prog 283 #[.string (BA (text x))] w fun e w' => e = .returned (.bool true) ∧ w = w') := fun w => by
  have := valid_any (BA (text x)) w (by unfold maxLen; omega)
  rw [hv] at this
  exact this
 have D : Hid (∀ w, Calls Tryz.prog 277 #[.string (BA (text x))] w fun e w' => e = .returned (.int .i64 ((body (LA (BA (text x)))).length : Nat)) ∧ w = w') := fun w => digits_any _ w (by omega)
 clear h hl hv
 generalize BA (text x) = s at hs hd V D ⊢
 generalize (body (LA s)).length = n at hd D
 go_enter Tryz.func252, Tryz.ntmps252
 go_wp2_with fail
 refine (V.out _).mono ?_
 rintro e w' ⟨rfl, rfl⟩
 go_wp2_with fail
 refine (D.out _).mono ?_
 rintro e w' ⟨rfl, rfl⟩
 go_wp2
 go_ret
 exact ⟨rfl, rfl⟩
theorem isFractionP (x : Int) (h : x.natAbs < 10 ^ 90) (w : World) : Calls Tryz.prog 222 #[.string (BA (text x)), .string ⟨#[49]⟩] w fun e w' => e = .returned (.bool true) ∧ w = w' := by
 have C1 := fun w => isShortP x h w
 have C2 : ∀ w, Calls Tryz.prog 252 #[.string ⟨#[49]⟩] w fun e w' => e = .returned (.bool true) ∧ w = w' := fun w => isShortP 1 (by decide) w
 replace C1 := qh9 C1
 replace C2 := qh9 C2
 clear h
 generalize BA (text x) = s at C1 ⊢
 go_enter Tryz.func222, Tryz.ntmps222
 go_wp2_with fail
 refine (C1.out _).mono ?_
 rintro e w' ⟨rfl, rfl⟩
 go_wp2_with fail
 refine (C2.out _).mono ?_
 rintro e w' ⟨rfl, rfl⟩
 go_wp2
 go_ret
 exact ⟨rfl, rfl⟩
theorem val_zero1 : val (LA ⟨#[48]⟩) = 0 := by decide
theorem isFracQ (q : Rat) (h : Bd 90 q) (w : World) : Calls Tryz.prog 222 #[.string (nt q), .string (dt q)] w (RetB w true) := by
 by_cases hd : q.den = 1
 · have e : dt q = ⟨#[49]⟩ := by unfold dt; rw [hd]; decide
   rw [e]
   exact (isFractionP q.num h.1 w).mono fun e w' hh => ⟨hh.1, hh.2 ▸ Below.refl _ _⟩
 · have s1 := bd_nt h
   have s2 := bd_dt h
   have C1 : Hid (∀ w, Calls Tryz.prog 252 #[.string (nt q)] w fun e w' => e = .returned (.bool true) ∧ w = w') := fun w => isShortP q.num h.1 w
   have C2 : Hid (∀ w, Calls Tryz.prog 252 #[.string (dt q)] w fun e w' => e = .returned (.bool true) ∧ w = w') := fun w => isShortP (q.den : Int) (by rw [Int.natAbs_natCast]; exact h.2) w
   have C3 : Hid (∀ w, Calls Tryz.prog 253 #[.string (dt q), .string ⟨#[48]⟩] w fun e w' => e = .returned (.int .i64 1) ∧ w = w') := fun w => by
    have h3 := compare_any (dt q) ⟨#[48]⟩ w (by omega) (by decide)
    rw [val_dt, val_zero1] at h3
    have : ordI (q.den : Int) 0 = 1 := by
     have := q.den_pos
     unfold ordI
     rw [if_neg (by omega), if_pos (by omega)]
    rw [this] at h3
    exact h3
   have C4 : Hid (∀ w, Calls Tryz.prog 254 #[.string (nt q), .string (dt q)] w fun e w' => e = .returned (.string ⟨#[49]⟩) ∧ Below w.heap.size w w') := fun w => by
    have h4 := gcd_any (nt q) (dt q) w (by omega) (by omega)
    rw [← val_natAbs, ← val_natAbs, val_nt, val_dt, Int.natAbs_natCast, q.reduced.gcd_eq_one] at h4
    exact h4
   have hn : ((dt q).toList == [49]) = false := by
    rw [beq_eq_false_iff_ne]
    intro e
    apply hd
    have e2 : LA (dt q) = [49] := by rw [← e, Lib.toList_data]; rfl
    have := val_dt q
    rw [e2] at this
    have h1 : val [49] = 1 := by decide
    omega
   clear h hd s1 s2
   generalize nt q = nq at *
   generalize dt q = dq at *
   go_enter Tryz.func222, Tryz.ntmps222
   go_wp2_with fail
   refine (C1.out _).mono ?_
   rintro e w' ⟨rfl, rfl⟩
   go_wp2_with fail
   refine (C2.out _).mono ?_
   rintro e w' ⟨rfl, rfl⟩
   go_wp2_with fail
   refine (C3.out _).mono ?_
   rintro e w' ⟨rfl, rfl⟩
   go_wp2_with fail
   refine (C4.out _).mono ?_
   rintro e w' ⟨rfl, hb⟩
   have HB := qh9 hb
   clear hb
   go_wp2
   go_ret
   exact ⟨rfl, HB.out⟩
theorem eqS_self (s1 s2 s3 s4 s5 : ByteArray) : eqS s1 s2 s3 s4 s5 s1 s2 s3 s4 s5 = true := by unfold eqS; simp
theorem hasOnlyP (b k : Nat) (w : World) (x : Int) (s1 s2 s3 s4 s5 : ByteArray) (A : Option Addr) (n c : Nat)
 (l0 : w.cell? ⟨b, k, none⟩ = some (.int .i64 x)) (l1 : w.cell? ⟨b, k + 1, none⟩ = some (.string s1)) (l2 : w.cell? ⟨b, k + 2, none⟩ = some (.string s2)) (l3 : w.cell? ⟨b, k + 3, none⟩ = some (.string s3)) (l4 : w.cell? ⟨b, k + 4, none⟩ = some (.string s4)) (l5 : w.cell? ⟨b, k + 5, none⟩ = some (.string s5)) (l6 : w.cell? ⟨b, k + 6, none⟩ = some (.slice A n c)) :
 Calls Tryz.prog 221 #[.pointer (some ⟨b, k, none⟩), .agg #[.int .i64 0, .string s1, .string s2, .string s3, .string s4, .string s5, .slice A n c]] w (RetB w true) := by
 have hlt := World.block_lt_of_cell? w _ l0
 have hne : ¬ b = w.heap.size := by have : b < w.heap.size := hlt; omega
 have hb0 := Below.alloc (Below.refl w.heap.size w) (Nat.le_refl _) (.cells #[.int .i64 x, .string s1, .string s2, .string s3, .string s4, .string s5, .slice A n c] 27)
 have hg0 := heap_alloc_new w (.cells #[.int .i64 x, .string s1, .string s2, .string s3, .string s4, .string s5, .slice A n c] 27)
 go_enter Tryz.func221, Tryz.ntmps221
 go_wp2_with fail
 have k0 := (hb0.cell (p := ⟨b, k, none⟩) hlt).trans l0
 have k1 := (hb0.cell (p := ⟨b, k + 1, none⟩) hlt).trans l1
 have k2 := (hb0.cell (p := ⟨b, k + 2, none⟩) hlt).trans l2
 have k3 := (hb0.cell (p := ⟨b, k + 3, none⟩) hlt).trans l3
 have k4 := (hb0.cell (p := ⟨b, k + 4, none⟩) hlt).trans l4
 have k5 := (hb0.cell (p := ⟨b, k + 5, none⟩) hlt).trans l5
 have k6 := (hb0.cell (p := ⟨b, k + 6, none⟩) hlt).trans l6
 generalize w.alloc (.cells #[.int .i64 x, .string s1, .string s2, .string s3, .string s4, .string s5, .slice A n c] 27) = W at hb0 hg0 k0 k1 k2 k3 k4 k5 k6 ⊢
 obtain ⟨⟨g0, g1, g2, g3, g4, g5, g6⟩, _⟩ := row7 hg0
 have C : Hid (∀ m, Calls Tryz.prog 235 #[.pointer (some ⟨b, k, none⟩), .pointer (some ⟨w.heap.size, 0, none⟩)] (W.drewN m) (QuietV (W.drewN m) (.bool true))) := fun m => by
  have h := sameRaw b k w.heap.size 0 (W.drewN m) x x s1 s2 s3 s4 s5 s1 s2 s3 s4 s5 k0 k1 k2 k3 k4 k5 g0 g1 g2 g3 g4 g5
  rw [eqS_self] at h
  simpa using h
 have HB := qh9 hb0
 clear l0 l1 l2 l3 l4 l5 l6 k0 k1 k2 k3 k4 k5 g0 g1 g2 g3 g4 g5 hg0 hb0
 go_quiet ((go_at_call 235; exact Calls.quiet_of (C.out _)))
 go_wp2
 go_ret
 exact ⟨rfl, HB.out.trans (⟨rfl, rfl, rfl, Nat.le_refl _, fun _ _ => rfl⟩ : Below w.heap.size W (W.drewN nq))⟩

theorem wellP : ∀ (a : Ob) (b k : Nat) (p : Value) (w : World) (S : Nat → Prop), a.bd 90 → In S w → At w S a b k p →
 Calls Tryz.prog 168 #[.pointer (some ⟨b, k, none⟩)] w (RetB w true) := by
 intro a
 induction a with
 | num q =>
  intro b k p w S hwf hS h
  obtain ⟨x0, x1, x2, x3, x4, x5, e, l0, l1, l2, l3, l4, l5, l6⟩ := h.cells
  obtain rfl := h.2.2.flat rfl
  have hlt : b < w.heap.size := hS b h.1.1
  rw [cellsO_f] at e
  simp only [List.cons.injEq, and_true] at e
  obtain ⟨rfl, rfl, rfl, rfl, rfl, rfl⟩ := e
  have hF : Hid (∀ w, Calls Tryz.prog 222 #[.string (nt q), .string (dt q)] w (RetB w true)) := fun w => isFracQ q hwf w
  have HO : Hid (∀ wd, Below w.heap.size w wd → Calls Tryz.prog 221 #[.pointer (some ⟨b, k, none⟩), .agg #[.int .i64 0, .string (nt q), .string (dt q), .string ⟨#[]⟩, .string ⟨#[]⟩, .string ⟨#[]⟩, .slice none 0 0]] wd (RetB wd true)) := fun wd hb =>
   hasOnlyP b k wd 1 (nt q) (dt q) ⟨#[]⟩ ⟨#[]⟩ ⟨#[]⟩ none 0 0 ((hb.cell (p := ⟨b, k, none⟩) hlt).trans l0) ((hb.cell (p := ⟨b, k + 1, none⟩) hlt).trans l1) ((hb.cell (p := ⟨b, k + 2, none⟩) hlt).trans l2) ((hb.cell (p := ⟨b, k + 3, none⟩) hlt).trans l3) ((hb.cell (p := ⟨b, k + 4, none⟩) hlt).trans l4) ((hb.cell (p := ⟨b, k + 5, none⟩) hlt).trans l5) ((hb.cell (p := ⟨b, k + 6, none⟩) hlt).trans l6)
  have HC : Hid (∀ wd, Below w.heap.size w wd → wd.cell? ⟨b, k + 1, none⟩ = some (.string (nt q)) ∧ wd.cell? ⟨b, k + 2, none⟩ = some (.string (dt q))) := fun wd hb => ⟨(hb.cell (p := ⟨b, k + 1, none⟩) hlt).trans l1, (hb.cell (p := ⟨b, k + 2, none⟩) hlt).trans l2⟩
  have hB0 : Below w.heap.size w w.drew := (Below.refl _ _).drew
  change w.cell? ⟨b, k, none⟩ = some (.int .i64 1) at l0
  change w.cell? ⟨b, k + 1, none⟩ = some (.string (nt q)) at l1
  change w.cell? ⟨b, k + 2, none⟩ = some (.string (dt q)) at l2
  clear l3 l4 l5 l6 h hwf
  generalize nt q = nq at *
  generalize dt q = dq at *
  go_enter Tryz.func168, Tryz.ntmps168
  go_wp2_with fail
  go_region_held3 (fun W' => W'.cell? ⟨b, k + 1, none⟩ = some (.string nq) ∧ W'.cell? ⟨b, k + 2, none⟩ = some (.string dq)) (go_keep)
   (first
     | (go_at_call 221; refine (HO.out _ ‹Below w.heap.size w _›).mono ?_; rintro e w3 ⟨rfl, hb3⟩; have hB3 := chain2 ‹Below w.heap.size w _› hb3 (Nat.le_refl _); obtain ⟨l1, l2⟩ := HC.out _ hB3; clear hb3)
     | (go_at_call 222; refine (hF.out _).mono ?_; rintro e w4 ⟨rfl, hb4⟩; have hB4 := chain2 ‹Below w.heap.size w _› hb4 (Nat.le_refl _); obtain ⟨l1, l2⟩ := HC.out _ hB4; clear hb4))
  all_goals go_wp2
  all_goals go_ret
  all_goals exact ⟨rfl, ‹Below w.heap.size w _›⟩
 | str s =>
  intro b k p w S hwf hS h
  obtain ⟨x0, x1, x2, x3, x4, x5, e, l0, l1, l2, l3, l4, l5, l6⟩ := h.cells
  obtain rfl := h.2.2.flat rfl
  have hlt : b < w.heap.size := hS b h.1.1
  rw [cellsO_f] at e
  simp only [List.cons.injEq, and_true] at e
  obtain ⟨rfl, rfl, rfl, rfl, rfl, rfl⟩ := e
  have hsz : ((BA s).size : Int) ≤ 200 := by rw [BA_size]; have : s.length ≤ 200 := hwf; omega
  change w.cell? ⟨b, k, none⟩ = some (.int .i64 3) at l0
  change w.cell? ⟨b, k + 5, none⟩ = some (.string (BA s)) at l5
  have HO := qh9 (hasOnlyP b k w 3 ⟨#[]⟩ ⟨#[]⟩ ⟨#[]⟩ ⟨#[]⟩ (BA s) none 0 0 l0 l1 l2 l3 l4 l5 l6)
  have HC : Hid (∀ wd, Below w.heap.size w wd → wd.cell? ⟨b, k + 5, none⟩ = some (.string (BA s))) := fun wd hb => (hb.cell (p := ⟨b, k + 5, none⟩) hlt).trans l5
  clear l1 l2 l3 l4 l6 h hwf
  generalize BA s = t at *
  go_enter Tryz.func168, Tryz.ntmps168
  go_wp2_with fail
  refine HO.out.mono ?_
  rintro e w1 ⟨rfl, hb1⟩
  have j5 := HC.out _ hb1
  have HB := qh9 hb1
  clear hb1 l5 l0
  go_wp2
  go_ret
  exact ⟨rfl, HB.out⟩
 | sym s n =>
  intro b k p w S hwf hS h
  obtain ⟨x0, x1, x2, x3, x4, x5, e, l0, l1, l2, l3, l4, l5, l6⟩ := h.cells
  obtain rfl := h.2.2.flat rfl
  have hlt : b < w.heap.size := hS b h.1.1
  rw [cellsO_f] at e
  simp only [List.cons.injEq, and_true] at e
  obtain ⟨rfl, rfl, rfl, rfl, rfl, rfl⟩ := e
  obtain ⟨hpk, hn1, hn2⟩ := hwf
  have hN := fun w => isNameP (BA n) (by rw [BA_size]; exact hn1) (by rw [BA_size]; exact hn2) w
  replace hN := qh9 hN
  have hP : Hid (∀ w, Calls Tryz.prog 223 #[.string (BA s)] w fun e w' => e = .returned (.bool true) ∧ w = w') := by
   rcases hpk with rfl | rfl
   · exact isPackageP
   · exact isPackageU
  change w.cell? ⟨b, k, none⟩ = some (.int .i64 2) at l0
  change w.cell? ⟨b, k + 3, none⟩ = some (.string (BA s)) at l3
  change w.cell? ⟨b, k + 4, none⟩ = some (.string (BA n)) at l4
  have HO := qh9 (hasOnlyP b k w 2 ⟨#[]⟩ ⟨#[]⟩ (BA s) (BA n) ⟨#[]⟩ none 0 0 l0 l1 l2 l3 l4 l5 l6)
  have HC : Hid (∀ wd, Below w.heap.size w wd → wd.cell? ⟨b, k + 3, none⟩ = some (.string (BA s)) ∧ wd.cell? ⟨b, k + 4, none⟩ = some (.string (BA n))) := fun wd hb => ⟨(hb.cell (p := ⟨b, k + 3, none⟩) hlt).trans l3, (hb.cell (p := ⟨b, k + 4, none⟩) hlt).trans l4⟩
  clear l1 l2 l5 l6 h hn1 hn2 hpk
  generalize BA s = t at *
  generalize BA n = t' at *
  go_enter Tryz.func168, Tryz.ntmps168
  go_wp2_with fail
  refine HO.out.mono ?_
  rintro e w1 ⟨rfl, hb1⟩
  obtain ⟨j3, j4⟩ := HC.out _ hb1
  have HB := qh9 hb1
  clear hb1 l0 l3 l4
  go_wp2_with fail
  refine (hP.out _).mono ?_
  rintro e w2 ⟨rfl, rfl⟩
  go_wp2_with fail
  refine (hN.out _).mono ?_
  rintro e w2 ⟨rfl, rfl⟩
  go_wp2
  go_ret
  exact ⟨rfl, HB.out⟩
 | cons a d iha ihd =>
  intro b k p w S hwf hS h
  obtain ⟨x0, x1, x2, x3, x4, x5, e, l0, l1, l2, l3, l4, l5, l6⟩ := h.cells
  obtain ⟨b', o', c', pa, pd, rfl, hc, hA, hD⟩ := h.2.2.parts
  have hlt : b < w.heap.size := hS b h.1.1
  rw [cellsO_f] at e
  simp only [List.cons.injEq, and_true] at e
  obtain ⟨rfl, rfl, rfl, rfl, rfl, rfl⟩ := e
  have CA : Hid (∀ wd, Below w.heap.size w wd → Calls Tryz.prog 168 #[.pointer (some ⟨b', o', none⟩)] wd (RetB wd true)) := fun wd hb => iha b' o' pa wd S hwf.1 (hS.later hb.size) (hA.below hS hb)
  have CD : Hid (∀ wd, Below w.heap.size w wd → Calls Tryz.prog 168 #[.pointer (some ⟨b', o' + 7, none⟩)] wd (RetB wd true)) := fun wd hb => ihd b' (o' + 7) pd wd S hwf.2 (hS.later hb.size) (hD.below hS hb)
  change w.cell? ⟨b, k, none⟩ = some (.int .i64 4) at l0
  have HO := qh9 (hasOnlyP b k w 4 ⟨#[]⟩ ⟨#[]⟩ ⟨#[]⟩ ⟨#[]⟩ ⟨#[]⟩ (some ⟨b', o', none⟩) 2 c' l0 l1 l2 l3 l4 l5 l6)
  have HC : Hid (∀ wd, Below w.heap.size w wd → wd.cell? ⟨b, k + 6, none⟩ = some (.slice (some ⟨b', o', none⟩) 2 c')) := fun wd hb => (hb.cell (p := ⟨b, k + 6, none⟩) hlt).trans l6
  clear l1 l2 l3 l4 l5 h hwf iha ihd hA hD
  go_enter Tryz.func168, Tryz.ntmps168
  go_wp2_with fail
  refine HO.out.mono ?_
  rintro e w1 ⟨rfl, hb1⟩
  have j6 := HC.out _ hb1
  have HB := qh9 hb1
  clear hb1 l0 l6
  go_wp2_with fail
  refine (CA.out _ HB.out).mono ?_
  rintro e w2 ⟨rfl, hb2⟩
  have HB2 := qc9 HB hb2
  have j7 := HC.out _ HB2.out
  clear hb2 j6
  go_wp2_with fail
  refine (CD.out _ HB2.out).mono ?_
  rintro e w3 ⟨rfl, hb3⟩
  have HB3 := qc9 HB2 hb3
  clear hb3 j7
  go_wp2
  go_ret
  exact ⟨rfl, HB3.out⟩

theorem validP (a : Ob) (p : Value) (w : World) (S : Nat → Prop) (hwf : a.bd 90) (hn : a.nodes ≤ 3000) (hS : In S w) (h : Pair w S a p) :
 Calls Tryz.prog 118 #[vO a p] w (RetB w true) := by
 obtain ⟨x0, x1, x2, x3, x4, x5, e⟩ := cells7 a p
 have hb : Below w.heap.size w (w.alloc (.cells #[x0, x1, x2, x3, x4, x5, p] 27)) := Below.alloc (Below.refl _ _) (Nat.le_refl _) _
 have hg := heap_alloc_new w (.cells #[x0, x1, x2, x3, x4, x5, p] 27)
 have hA : At (w.alloc (.cells #[x0, x1, x2, x3, x4, x5, p] 27)) (fun b => S b ∨ b = w.heap.size) a w.heap.size 0 p := by
  refine ⟨⟨.inr rfl, _, _, hg⟩, fun j u hj => ?_, (h.below hS hb).more fun _ h => .inl h⟩
  rw [Nat.zero_add, cell_of_row _ _ _ _ _ _ hg, ← hj, e]
  simp
 have hS' : In (fun b => S b ∨ b = w.heap.size) (w.alloc (.cells #[x0, x1, x2, x3, x4, x5, p] 27)) := fun b hb => by
  rcases hb with hb | rfl
  · have := hS b hb; simp; omega
  · simp
 have N := nodesP a p _ S (hS.later hb.size) (h.below hS hb) hn
 unfold vO at N
 rw [e] at N
 replace N := qh9 N
 have V : Hid (∀ wd, Below (w.heap.size + 1) (w.alloc (.cells #[x0, x1, x2, x3, x4, x5, p] 27)) wd → Calls Tryz.prog 168 #[.pointer (some ⟨w.heap.size, 0, none⟩)] wd (RetB wd true)) := fun wd hb' =>
  wellP a w.heap.size 0 p wd _ hwf (hS'.later hb'.size) (hA.below (B := w.heap.size + 1) (fun b hb => by have := hS' b hb; simpa using this) hb')
 unfold vO
 rw [e]
 have hz : (w.alloc (.cells #[x0, x1, x2, x3, x4, x5, p] 27)).heap.size = w.heap.size + 1 := by simp
 have hnn : (a.nodes : Int) ≤ 3000 := by omega
 clear e hA hS' h hS hg hwf
 go_enter Tryz.func118, Tryz.ntmps118
 go_wp2_with fail
 refine N.out.mono ?_
 rintro e w1 ⟨rfl, hb1⟩
 rw [hz] at hb1
 have V1 := qh9 (V.out _ hb1)
 have HB := qh9 (hb.trans (hb1.mono (by omega)))
 clear hb1 hb V N hz
 go_wp2_with fail
 refine V1.out.mono ?_
 rintro e w2 ⟨rfl, hb2⟩
 have HB2 := qh9 (HB.out.trans (hb2.mono HB.out.size))
 clear hb2
 go_wp2
 go_ret
 exact ⟨rfl, HB2.out⟩
theorem infoO : ∃ i, Tryz.prog.info? 27 = some i ∧ i.zero = some zeroO ∧ i.size = 7 ∧ i.bytes = 112 := info_of (P := Tryz.prog) (t := 27) (z := zeroO) (a := 7) (b := 112) (by kernel_rfl)
theorem newsO {w : World} {cs : Array Value} {t : TypeId} {b : Nat} (hb : b = w.heap.size) : ∀ j u, cs.toList[j]? = some u → (w.alloc (.cells cs t)).cell? ((⟨b, 0, none⟩ : Addr).add j) = some u := by
 intro j u hj
 subst hb
 have e : (Addr.add ⟨w.heap.size, 0, none⟩ j) = ⟨w.heap.size, j, none⟩ := by
  unfold Addr.add
  split
  · rename_i h; rw [h]
  · simp
 rw [e, cell_of_row _ _ _ _ _ _ (heap_alloc_new w _)]
 simpa using hj


end Go.Proofs.YtlocnkobancjmaaGreatDoor
