/- The parser's tokens in memory: the next one, taken or not. -/
import Derived.Test.YtflnffgohbbhiaaGreatDoorG16
import Derived.Test.YtflnffgohbbhiaaGreatDoorG22
import Derived.Test.YtflnffgohbbhiaaGreatDoorG18
import Derived.Deep.RegionWith
namespace Go.Proofs.YtflnffgohbbhiaaGreatDoor
open Go Go.RowKit
set_option linter.unusedVariables false
set_option maxHeartbeats 8000000
set_option maxRecDepth 100000

def Psr (W0 w : World) (g : Nat) (l : List Sy.Pg) (lv : Value) (cur : ByteArray) (ts : List Tk) : Prop :=
 ∃ tv, w.heap[g]? = some (.cells #[lv, .string cur, tv] 105 (0, 0)) ∧ W0.heap.size ≤ g ∧ Below W0.heap.size W0 w ∧ Sy.PgV W0 l lv ∧ TkV W0 0 ts tv
theorem Psr.lt {W0 w : World} {g : Nat} {l : List Sy.Pg} {lv : Value} {cur : ByteArray} {ts : List Tk} (h : Psr W0 w g l lv cur ts) : g < w.heap.size := by
 obtain ⟨tv, h1, _⟩ := h
 exact Sy.blk_ltY h1
theorem Psr.keep {W0 w w' : World} {g : Nat} {l : List Sy.Pg} {lv : Value} {cur : ByteArray} {ts : List Tk} (h : Psr W0 w g l lv cur ts) (hb : Below w.heap.size w w') : Psr W0 w' g l lv cur ts := by
 obtain ⟨tv, h1, h2, h3, h4⟩ := h
 exact ⟨tv, (hb.block g (Sy.blk_ltY h1)).trans h1, h2, h3.trans (hb.mono h3.size), h4⟩
theorem flatT_cons (t : Tk) (r : List Tk) : flatT (t :: r) = (tkC t).toList ++ flatT r := by unfold flatT; simp
theorem TkV.head {w : World} {B : Nat} {t : Tk} {r : List Tk} {v : Value} (h : TkV w B (t :: r) v) : ∃ b o c, v = .slice (some ⟨b, o, none⟩) (r.length + 1) c ∧ r.length + 1 ≤ c ∧ c ≤ maxLen ∧ b < w.heap.size ∧
 w.cell? ⟨b, o, none⟩ = some (.int .i64 t.k) ∧ w.cell? ⟨b, o + 1, none⟩ = some (.int .i64 t.p) ∧ w.cell? ⟨b, o + 2, none⟩ = some (.string (BA t.pkg)) ∧ w.cell? ⟨b, o + 3, none⟩ = some (.string (BA t.txt)) ∧ w.cell? ⟨b, o + 4, none⟩ = some (.string (BA t.den)) ∧
 (r ≠ [] → TkV w B r (.slice (some ⟨b, o + 5, none⟩) r.length (c - 1))) := by
 obtain ⟨A, c, rfl, h2, h3, h4⟩ := h
 obtain ⟨b, o, rfl, h6, h7⟩ := h4 (by simp)
 have e : ∀ j u, (tkC t).toList[j]? = some u → w.cell? ⟨b, o + j, none⟩ = some u := fun j u hj => h7 j u (by
  rw [flatT_cons, List.getElem?_append_left]
  · exact hj
  · exact (List.getElem?_eq_some_iff.1 hj).1)
 rw [List.length_cons] at h2
 refine ⟨b, o, c, rfl, h2, h3, h6.2, e 0 _ rfl, e 1 _ rfl, e 2 _ rfl, e 3 _ rfl, e 4 _ rfl, fun hr => ⟨_, _, rfl, by omega, by omega, fun _ => ⟨b, o + 5, rfl, h6, fun j u hj => ?_⟩⟩⟩
 have := h7 (5 + j) u (by
  rw [flatT_cons, List.getElem?_append_right (by show 5 ≤ 5 + j; omega)]
  show (flatT r)[5 + j - 5]? = _
  rw [show 5 + j - 5 = j by omega]
  exact hj)
 rwa [show o + (5 + j) = o + 5 + j by omega] at this
theorem Psr.row {W0 w : World} {g b : Nat} {l : List Sy.Pg} {lv : Value} {cur : ByteArray} {ts : List Tk} (h : Psr W0 w g l lv cur ts) (hg : g < b) (c : Array Value) : Psr W0 (w.setRow b c) g l lv cur ts := by
 obtain ⟨tv, h1, h2, h3, h4⟩ := h
 exact ⟨tv, (setRow_other _ _ _ _ (by omega)).trans h1, h2, below_setRow h3 (by omega) _, h4⟩
theorem But.row {g b : Nat} {w W : World} (h : But g w W) (hb : w.heap.size ≤ b) (c : Array Value) : But g w (W.setRow b c) :=
 ⟨h.os, h.tape, h.output, by have := h.size; simpa using this, fun k hk hne => (setRow_other _ _ _ _ (by omega)).trans (h.block k hk hne)⟩
theorem TB.load {ops : Array Oper} {rest : List Oper} {o : Oper} {a : Act} {w : World} {Q : Exit → Act → World → Prop} (x : Operand) (ho : o.op = .load 68 x) (hgd : o.guard = none)
 {g : Nat} {t : Tk} (hx : a.eval x = .pointer (some ⟨g, 0, none⟩)) (hg : TB w g (tkC t))
 (h : wpList Tryz.prog ops Q rest (a.put o.dst (tkV t)) w) : wpList Tryz.prog ops Q (o :: rest) a w :=
 wpList_load_row hgd 68 x ho g hx 68 (tkC t) (0, 0) _ hg Tryz.underlying68 rfl (by kernel_rfl) h
theorem below_set {B : Nat} (W : World) (g k : Nat) (v : Value) (hB : B ≤ g) : Below B W (W.setCell ⟨g, k, none⟩ v) := (Below.refl B W).setCell hB v
structure PsC (W0 w : World) (g : Nat) (l : List Sy.Pg) (lv : Value) (cur : ByteArray) (t : Tk) (r : List Tk) (b o c : Nat) : Prop where
 c0 : w.cell? ⟨g, 0, none⟩ = some lv
 c1 : w.cell? ⟨g, 1, none⟩ = some (.string cur)
 c2 : w.cell? ⟨g, 2, none⟩ = some (.slice (some ⟨b, o, none⟩) (r.length + 1) c)
 cf : w.frozen? ⟨g, 2, none⟩ = false
 hc : r.length + 1 ≤ c
 hm : c ≤ maxLen
 t0 : w.cell? ⟨b, o, none⟩ = some (.int .i64 t.k)
 t1 : w.cell? ⟨b, o + 1, none⟩ = some (.int .i64 t.p)
 t2 : w.cell? ⟨b, o + 2, none⟩ = some (.string (BA t.pkg))
 t3 : w.cell? ⟨b, o + 3, none⟩ = some (.string (BA t.txt))
 t4 : w.cell? ⟨b, o + 4, none⟩ = some (.string (BA t.den))
 tl : r ≠ [] → Psr W0 (w.setCell ⟨g, 2, none⟩ (.slice (some ⟨b, o + 5, none⟩) r.length (c - 1))) g l lv cur r
theorem Psr.open {W0 w : World} {g : Nat} {l : List Sy.Pg} {lv : Value} {cur : ByteArray} {t : Tk} {r : List Tk} (h : Psr W0 w g l lv cur (t :: r)) : ∃ b o c, PsC W0 w g l lv cur t r b o c := by
 obtain ⟨tv, h1, h2, h3, h4, h5⟩ := h
 obtain ⟨b, o, c, rfl, k1, k2, k3, k4, k5, k6, k7, k8, k9⟩ := h5.head
 refine ⟨b, o, c, ⟨?_, ?_, ?_, ?_, k1, k2, ?_, ?_, ?_, ?_, ?_, fun hr => ?_⟩⟩
 · rw [cell_of_row _ _ _ _ _ _ h1]; rfl
 · rw [cell_of_row _ _ _ _ _ _ h1]; rfl
 · rw [cell_of_row _ _ _ _ _ _ h1]; rfl
 · simp [World.frozen?, h1]
 · exact (h3.cell k3).trans k4
 · exact (h3.cell k3).trans k5
 · exact (h3.cell k3).trans k6
 · exact (h3.cell k3).trans k7
 · exact (h3.cell k3).trans k8
 · refine ⟨_, ?_, h2, h3.trans (below_set w _ _ _ h2), h4, k9 hr⟩
   simp [World.setCell, Array.getElem?_modify, h1]
theorem peekPs (W0 w : World) (g : Nat) (l : List Sy.Pg) (lv : Value) (cur : ByteArray) (t : Tk) (r : List Tk) (h : Psr W0 w g l lv cur (t :: r)) : Calls Tryz.prog 57 #[.pointer (some ⟨g, 0, none⟩)] w (fun e w' => e = .returned (.int .i64 t.k) ∧ w = w') := by
 obtain ⟨b, o, c, HC0⟩ := h.open
 have c0 := HC0.c0
 have c1 := HC0.c1
 have c2 := HC0.c2
 have t0 := HC0.t0
 have t1 := HC0.t1
 have t2 := HC0.t2
 have t3 := HC0.t3
 have t4 := HC0.t4
 have hcr := HC0.hc
 have hcm := HC0.hm
 have cf := HC0.cf
 unfold maxLen at hcm
 have HC := Lib.hid HC0
 clear HC0
 have hn : (0 : Int) < ((r.length + 1 : Nat) : Int) := by omega
 go_enter Tryz.func57, Tryz.ntmps57
 go_wp2
 go_ret
 exact ⟨rfl, rfl⟩
theorem takeEnd (W0 w : World) (g : Nat) (l : List Sy.Pg) (lv : Value) (cur : ByteArray) (t : Tk) (r : List Tk) (h : Psr W0 w g l lv cur (t :: r)) (hk : t.k = 0) : Calls Tryz.prog 83 #[.pointer (some ⟨g, 0, none⟩)] w (PanS w g 11 t.p) := by
 obtain ⟨tk, tp, tq, tt, td⟩ := t
 have HG := Lib.hid h.lt
 have HB := Lib.hid (show Below w.heap.size w (w.alloc (.cells #[.int .i64 0, .int .i64 0, .string ⟨#[]⟩, .string ⟨#[]⟩, .string ⟨#[]⟩] 68)) from Below.alloc (Below.refl _ _) (Nat.le_refl _) _)
 have HT := Lib.hid (TB.new w #[.int .i64 0, .int .i64 0, .string ⟨#[]⟩, .string ⟨#[]⟩, .string ⟨#[]⟩])
 have H1 := Lib.hid (h.keep HB.out)
 clear h
 go_enter Tryz.func83, Tryz.ntmps83
 go_upto_region 1 with fail
 generalize (w.alloc (.cells #[.int .i64 0, .int .i64 0, .string ⟨#[]⟩, .string ⟨#[]⟩, .string ⟨#[]⟩] 68)) = W1 at HB HT H1 ⊢
 obtain ⟨b, o, c, HC0⟩ := H1.out.open
 have c0 := HC0.c0
 have c1 := HC0.c1
 have c2 := HC0.c2
 have t0 := HC0.t0
 have t1 := HC0.t1
 have t2 := HC0.t2
 have t3 := HC0.t3
 have t4 := HC0.t4
 have hcr := HC0.hc
 have hcm := HC0.hm
 have cf := HC0.cf
 unfold maxLen at hcm
 have HC := Lib.hid HC0
 clear HC0
 have hn : (0 : Int) < ((r.length + 1 : Nat) : Int) := by omega
 have hk2 : tk = 0 := hk
 have hz : (tk == 0) = true := by rw [hk2]; rfl
 have hl := Below.alloc (Below.refl W1.heap.size W1) (Nat.le_refl _) (.cells #[.int .i64 tk, .int .i64 tp, .string (BA tq), .string (BA tt), .string (BA td)] 68)
 have HB2 := Lib.hid (chain5 HB.out hl)
 clear hk hk2 hl
 go_wp2_with fail
 refine (reportP 11 _ _ g).mono ?_
 rintro e w2 ⟨rfl, hb⟩
 exact ⟨rfl, rfl, (But.of HB2.out).trans hb⟩
theorem takeOk (W0 w : World) (g : Nat) (l : List Sy.Pg) (lv : Value) (cur : ByteArray) (t : Tk) (r : List Tk) (h : Psr W0 w g l lv cur (t :: r)) (hk : t.k ≠ 0) (hr : r ≠ []) : Calls Tryz.prog 83 #[.pointer (some ⟨g, 0, none⟩)] w (fun e w' => e = .returned (tkV t) ∧ Psr W0 w' g l lv cur r ∧ But g w w') := by
 obtain ⟨tk, tp, tq, tt, td⟩ := t
 have HG := Lib.hid h.lt
 have HB := Lib.hid (show Below w.heap.size w (w.alloc (.cells #[.int .i64 0, .int .i64 0, .string ⟨#[]⟩, .string ⟨#[]⟩, .string ⟨#[]⟩] 68)) from Below.alloc (Below.refl _ _) (Nat.le_refl _) _)
 have HT := Lib.hid (TB.new w #[.int .i64 0, .int .i64 0, .string ⟨#[]⟩, .string ⟨#[]⟩, .string ⟨#[]⟩])
 have H1 := Lib.hid (h.keep HB.out)
 clear h
 go_enter Tryz.func83, Tryz.ntmps83
 go_upto_region 1 with fail
 generalize (w.alloc (.cells #[.int .i64 0, .int .i64 0, .string ⟨#[]⟩, .string ⟨#[]⟩, .string ⟨#[]⟩] 68)) = W1 at HB HT H1 ⊢
 obtain ⟨b, o, c, HC0⟩ := H1.out.open
 have c0 := HC0.c0
 have c1 := HC0.c1
 have c2 := HC0.c2
 have t0 := HC0.t0
 have t1 := HC0.t1
 have t2 := HC0.t2
 have t3 := HC0.t3
 have t4 := HC0.t4
 have hcr := HC0.hc
 have hcm := HC0.hm
 have cf := HC0.cf
 unfold maxLen at hcm
 have HC := Lib.hid HC0
 clear HC0
 have hn : (0 : Int) < ((r.length + 1 : Nat) : Int) := by omega
 have hz : (tk == 0) = false := by rw [beq_eq_false_iff_ne]; exact hk
 have hrl : 0 < r.length := List.length_pos_iff.2 hr
 have HR := Lib.hid hr
 clear hk hr
 go_upto_region 4 with fail
 have hl := Lib.hid (show Below W1.heap.size W1 (W1.alloc (.cells #[.int .i64 tk, .int .i64 tp, .string (BA tq), .string (BA tt), .string (BA td)] 68)) from Below.alloc (Below.refl _ _) (Nat.le_refl _) _)
 have HT2 := Lib.hid (TB.new W1 #[.int .i64 tk, .int .i64 tp, .string (BA tq), .string (BA tt), .string (BA td)])
 have HT1 := Lib.hid (HT.out.keep hl.out)
 have HB2 := Lib.hid (chain5 HB.out hl.out)
 have H2 := Lib.hid (H1.out.keep hl.out)
 have hgn := HT.out.lt
 obtain ⟨g3, hg3⟩ : ∃ g3, g3 = W1.heap.size := ⟨_, rfl⟩
 rw [← hg3] at HT2 hgn ⊢
 generalize W1.alloc (.cells #[.int .i64 tk, .int .i64 tp, .string (BA tq), .string (BA tt), .string (BA td)] 68) = W2 at HT2 HT1 HB2 H2 ⊢
 clear hl hg3 H1 HB HT HC c0 c1 c2 t0 t1 t2 t3 t4 hcr hcm cf
 obtain ⟨b, o, c, HC0⟩ := H2.out.open
 have c0 := HC0.c0
 have c1 := HC0.c1
 have c2 := HC0.c2
 have t0 := HC0.t0
 have t1 := HC0.t1
 have t2 := HC0.t2
 have t3 := HC0.t3
 have t4 := HC0.t4
 have hcr2 := HC0.hc
 have hcm2 := HC0.hm
 have cf := HC0.cf
 unfold maxLen at hcm2
 have HC := Lib.hid HC0
 clear HC0
 have m0 : (1 : Int) ≤ ((r.length + 1 : Nat) : Int) := by omega
 have m1 : (0 : Int) ≤ (1 : Int) ∧ (1 : Int) ≤ ((r.length + 1 : Nat) : Int) := by omega
 have m2 : (1 : Nat) < c := by omega
 have m3 : ¬ c = 1 := by omega
 go_upto_region 5 with fail
 have HP : Hid (Psr W0 (W2.setCell ⟨g, 2, none⟩ (.slice (some ⟨b, o + 5, none⟩) r.length (c - 1))) g l lv cur r) := HC.out.tl HR.out
 have HX1 := Lib.hid (HT1.out.but (But.set W2 (g := g) 2 (.slice (some ⟨b, o + 5, none⟩) r.length (c - 1))) (by have := HG.out; omega))
 have HX2 := Lib.hid (HT2.out.but (But.set W2 (g := g) 2 (.slice (some ⟨b, o + 5, none⟩) r.length (c - 1))) (by have := HG.out; omega))
 have HBt := Lib.hid ((But.of (g := g) HB2.out).trans (But.set W2 2 (.slice (some ⟨b, o + 5, none⟩) r.length (c - 1))))
 generalize W2.setCell ⟨g, 2, none⟩ (.slice (some ⟨b, o + 5, none⟩) r.length (c - 1)) = W3 at HP HX1 HX2 HBt ⊢
 clear HT1 HT2 HB2 H2 HC c0 c1 c2 t0 t1 t2 t3 t4 hcr2 hcm2 cf m0 m1 m2 m3
 go_wp2_with (first | (refine TB.load (t := ⟨tk, tp, tq, tt, td⟩) (.tmp 3) rfl rfl rfl HX2.out ?_) | (refine TB.store (.tmp 2) (.tmp 24) rfl rfl w.heap.size ⟨tk, tp, tq, tt, td⟩ _ rfl rfl rfl HX1.out ?_))
 exact retTk (t := ⟨tk, tp, tq, tt, td⟩) rfl rfl (HX1.out.set _) ⟨rfl, HP.out.row (by have := HG.out; omega) _, HBt.out.row (Nat.le_refl _) _⟩
def homeB (cur : ByteArray) (t : Tk) : ByteArray := if t.pkg = [] then cur else BA t.pkg
def symL (l : List Sy.Pg) (cur : ByteArray) (t : Tk) : (List UInt8 × List UInt8) × Int := ((LA (Sy.internM l (homeB cur t) (BA t.txt)).1.1, LA (Sy.internM l (homeB cur t) (BA t.txt)).1.2), (Sy.internM l (homeB cur t) (BA t.txt)).2)
def ObB (W : World) (g : Nat) (x : Array Value) : Prop := W.heap[g]? = some (.cells x 47 (0, 0))
theorem ObB.keep {W W' : World} {g : Nat} {x : Array Value} (h : ObB W g x) (hb : Below W.heap.size W W') : ObB W' g x := (hb.block g (Sy.blk_ltY h)).trans h
theorem SB.fr0 {W : World} {g : Nat} {x y : Value} (h : Sy.SB W g x y) : W.frozen? ⟨g, 0, none⟩ = false := by
 unfold Sy.SB at h
 simp [World.frozen?, h]
theorem SB.fr1 {W : World} {g : Nat} {x y : Value} (h : Sy.SB W g x y) : W.frozen? ⟨g, 1, none⟩ = false := by
 unfold Sy.SB at h
 simp [World.frozen?, h]
structure SymX (w W : World) (gs : Nat) (tk tp : Int) (tq tt td : List UInt8) (s1 s2 : ByteArray) : Prop where
 bel : Below w.heap.size w W
 t : TB W w.heap.size #[.int .i64 tk, .int .i64 tp, .string (BA tq), .string (BA tt), .string (BA td)]
 o : ObB W (w.heap.size + 1) #[.int .i64 0, .string ⟨#[]⟩, .string ⟨#[]⟩, .string ⟨#[]⟩, .string ⟨#[]⟩, .string ⟨#[]⟩, .slice none 0 0]
 s : Sy.SB W gs (.string s1) (.string s2)
theorem SymX.new {w W1 w9 : World} {tk tp : Int} {tq tt td : List UInt8} (hb : Below w.heap.size w W1) (ht : TB W1 w.heap.size #[.int .i64 tk, .int .i64 tp, .string (BA tq), .string (BA tt), .string (BA td)]) (ho : ObB W1 (w.heap.size + 1) #[.int .i64 0, .string ⟨#[]⟩, .string ⟨#[]⟩, .string ⟨#[]⟩, .string ⟨#[]⟩, .string ⟨#[]⟩, .slice none 0 0]) (h9 : Below W1.heap.size W1 w9) (s1 s2 : ByteArray) :
 SymX w (w9.alloc (.cells #[.string s1, .string s2] 45)) w9.heap.size tk tp tq tt td s1 s2 := by
 have ha := Below.alloc (Below.refl w9.heap.size w9) (Nat.le_refl _) (.cells #[.string s1, .string s2] 45)
 exact ⟨chain5 (chain5 hb h9) ha, (ht.keep h9).keep ha, (ho.keep h9).keep ha, Sy.SB.new _ _ _⟩
theorem SymX.old {w W1 w9 : World} {tk tp : Int} {tq tt td : List UInt8} (hb : Below w.heap.size w W1) (ht : TB W1 w.heap.size #[.int .i64 tk, .int .i64 tp, .string (BA tq), .string (BA tt), .string (BA td)]) (ho : ObB W1 (w.heap.size + 1) #[.int .i64 0, .string ⟨#[]⟩, .string ⟨#[]⟩, .string ⟨#[]⟩, .string ⟨#[]⟩, .string ⟨#[]⟩, .slice none 0 0]) (h9 : Below W1.heap.size W1 w9)
 {x y : Value} (hs : Sy.SB w9 W1.heap.size x y) (s1 s2 : ByteArray) :
 SymX w ((w9.setCell ⟨W1.heap.size, 0, none⟩ (.string s1)).setCell ⟨W1.heap.size, 1, none⟩ (.string s2)) W1.heap.size tk tp tq tt td s1 s2 := by
 have l1 := ht.lt
 have l2 := Sy.blk_ltY ho
 have hh : ∀ k, k ≠ W1.heap.size → ((w9.setCell ⟨W1.heap.size, 0, none⟩ (.string s1)).setCell ⟨W1.heap.size, 1, none⟩ (.string s2)).heap[k]? = w9.heap[k]? := fun k hk => (Below.heap_setCell _ ⟨W1.heap.size, 1, none⟩ _ k hk).trans (Below.heap_setCell _ ⟨W1.heap.size, 0, none⟩ _ k hk)
 refine ⟨((chain5 hb h9).setCell (by show w.heap.size ≤ W1.heap.size; omega) _).setCell (by show w.heap.size ≤ W1.heap.size; omega) _, (hh _ (by omega)).trans (ht.keep h9), (hh _ (by omega)).trans (ho.keep h9), ?_⟩
 unfold Sy.SB at hs ⊢
 simp [World.setCell, Array.getElem?_modify, hs]
def OutY (w : World) (m : (List UInt8 × List UInt8) × Int) (p : Int) (e : Ending) (w' : World) : Prop := Below w.heap.size w w' ∧
 if m.2 = 0 then e = .returned (vO (.sym m.1.1 m.1.2) (.slice none 0 0)) else e = .panicked [{ v := errV m.2 p, recovered := false }]
theorem OutY.ok_ {w w' : World} {a b : List UInt8} {p : Int} (h : Below w.heap.size w w') : OutY w ((a, b), 0) p (.returned (vO (.sym a b) (.slice none 0 0))) w' := ⟨h, by rw [if_pos rfl]⟩
theorem OutY.bad_ {w w' : World} {a : List UInt8 × List UInt8} {x p : Int} (h : Below w.heap.size w w') (hx : ¬ x = 0) : OutY w (a, x) p (.panicked [{ v := errV x p, recovered := false }]) w' := ⟨h, by rw [if_neg hx]⟩
set_option maxHeartbeats 8000000 in
set_option maxRecDepth 100000 in
theorem symbolPs (W0 w : World) (g : Nat) (l : List Sy.Pg) (lv : Value) (cur : ByteArray) (ts : List Tk) (tk tp : Int) (tq tt td : List UInt8) (h : Psr W0 w g l lv cur ts) (hts : ts ≠ []) (hl : l.length ≤ 1000000) (hi : ∀ p ∈ l, p.2.length ≤ 1000000) :
 Calls Tryz.prog 85 #[.pointer (some ⟨g, 0, none⟩), .agg #[.int .i64 tk, .int .i64 tp, .string (BA tq), .string (BA tt), .string (BA td)]] w (OutY w (symL l cur ⟨tk, tp, tq, tt, td⟩) tp) := by
 obtain ⟨t0, r, rfl⟩ : ∃ t0 r, ts = t0 :: r := by
  cases ts with
  | nil => exact absurd rfl hts
  | cons a b => exact ⟨a, b, rfl⟩
 have HG := Lib.hid h.lt
 have HB := Lib.hid (al2 w (.cells #[.int .i64 tk, .int .i64 tp, .string (BA tq), .string (BA tt), .string (BA td)] 68) (.cells #[.int .i64 0, .string ⟨#[]⟩, .string ⟨#[]⟩, .string ⟨#[]⟩, .string ⟨#[]⟩, .string ⟨#[]⟩, .slice none 0 0] 47))
 have HT : Hid (TB ((w.alloc (.cells #[.int .i64 tk, .int .i64 tp, .string (BA tq), .string (BA tt), .string (BA td)] 68)).alloc (.cells #[.int .i64 0, .string ⟨#[]⟩, .string ⟨#[]⟩, .string ⟨#[]⟩, .string ⟨#[]⟩, .string ⟨#[]⟩, .slice none 0 0] 47)) w.heap.size #[.int .i64 tk, .int .i64 tp, .string (BA tq), .string (BA tt), .string (BA td)]) := heap_old1 _ _ _
 have HO : Hid (ObB ((w.alloc (.cells #[.int .i64 tk, .int .i64 tp, .string (BA tq), .string (BA tt), .string (BA td)] 68)).alloc (.cells #[.int .i64 0, .string ⟨#[]⟩, .string ⟨#[]⟩, .string ⟨#[]⟩, .string ⟨#[]⟩, .string ⟨#[]⟩, .slice none 0 0] 47)) (w.heap.size + 1) #[.int .i64 0, .string ⟨#[]⟩, .string ⟨#[]⟩, .string ⟨#[]⟩, .string ⟨#[]⟩, .string ⟨#[]⟩, .slice none 0 0]) := by
  show ObB _ _ _
  have := heap_alloc_new (w.alloc (.cells #[.int .i64 tk, .int .i64 tp, .string (BA tq), .string (BA tt), .string (BA td)] 68)) (.cells #[.int .i64 0, .string ⟨#[]⟩, .string ⟨#[]⟩, .string ⟨#[]⟩, .string ⟨#[]⟩, .string ⟨#[]⟩, .slice none 0 0] 47)
  unfold ObB
  simpa using this
 have H1 := Lib.hid (h.keep HB.out)
 have HL : Hid (Sy.PgV W0 l lv ∧ W0.heap.size ≤ g ∧ l.length ≤ 1000000 ∧ (∀ p ∈ l, p.2.length ≤ 1000000)) := by
  obtain ⟨tv, _, h2, _, h4, _⟩ := h
  exact ⟨h4, h2, hl, hi⟩
 clear h hts hl hi
 obtain ⟨hm, hhm⟩ : ∃ hm, homeB cur ⟨tk, tp, tq, tt, td⟩ = hm := ⟨_, rfl⟩
 obtain ⟨sy, hsy⟩ : ∃ sy, Sy.internM l hm (BA tt) = sy := ⟨_, rfl⟩
 obtain ⟨⟨s1, s2⟩, er⟩ := sy
 have hS : symL l cur ⟨tk, tp, tq, tt, td⟩ = ((LA s1, LA s2), er) := by
  unfold symL
  rw [hhm]
  show ((LA (Sy.internM l hm (BA tt)).1.1, LA (Sy.internM l hm (BA tt)).1.2), (Sy.internM l hm (BA tt)).2) = _
  rw [hsy]
 rw [hS]
 have HHM := Lib.hid hhm
 have HI : Hid (∀ (W1 W2 : World), Psr W0 W1 g l lv cur (t0 :: r) → Below W1.heap.size W1 W2 → Calls Tryz.prog 107 #[lv, .string hm, .string (BA tt)] W2 (Sy.RetN W2 ((s1, s2), er))) := fun W1 W2 hp hb => hsy ▸ Sy.internY l lv hm (BA tt) W2 ((HL.out.1.keep (by obtain ⟨tv, _, _, h3, _⟩ := hp; exact h3)).keep hb) HL.out.2.2.1 HL.out.2.2.2
 clear hS hsy hhm
 by_cases hq : tq = []
 · have e2 : (BA tq).toList.isEmpty = true := by rw [ba_empty]; exact decide_eq_true hq
   obtain rfl : cur = hm := (if_pos hq).symm.trans HHM.out
   clear hq HHM
   go_enter Tryz.func85, Tryz.ntmps85
   go_upto_region 1 with fail
   generalize ((w.alloc (.cells #[.int .i64 tk, .int .i64 tp, .string (BA tq), .string (BA tt), .string (BA td)] 68)).alloc (.cells #[.int .i64 0, .string ⟨#[]⟩, .string ⟨#[]⟩, .string ⟨#[]⟩, .string ⟨#[]⟩, .string ⟨#[]⟩, .slice none 0 0] 47)) = W1 at HB HT HO H1 ⊢
   obtain ⟨b, o, c, HC0⟩ := H1.out.open
   have c0 := HC0.c0
   have c1 := HC0.c1
   have c2 := HC0.c2
   have t0 := HC0.t0
   have t1 := HC0.t1
   have t2 := HC0.t2
   have t3 := HC0.t3
   have t4 := HC0.t4
   have hcr := HC0.hc
   have hcm := HC0.hm
   have cf := HC0.cf
   unfold maxLen at hcm
   have HC := Lib.hid HC0
   clear HC0
   have q1 : W1.cell? ⟨w.heap.size, 1, none⟩ = some (.int .i64 tp) := by rw [cell_of_row _ _ _ _ _ _ HT.out]; rfl
   have q2 : W1.cell? ⟨w.heap.size, 2, none⟩ = some (.string (BA tq)) := by rw [cell_of_row _ _ _ _ _ _ HT.out]; rfl
   have q3 : W1.cell? ⟨w.heap.size, 3, none⟩ = some (.string (BA tt)) := by rw [cell_of_row _ _ _ _ _ _ HT.out]; rfl
   go_upto_region 4 with fail
   have KI := Lib.hid (fun W2 hb => HI.out W1 W2 H1.out hb)
   have d0 : W1.drew.cell? ⟨g, 0, none⟩ = some lv := c0
   have d3 : W1.drew.cell? ⟨w.heap.size, 3, none⟩ = some (.string (BA tt)) := q3
   have a0 : (W1.alloc (.cells #[.string ⟨#[]⟩, .string ⟨#[]⟩] 45)).drew.cell? ⟨g, 0, none⟩ = some lv := ((Below.alloc (Below.refl W1.heap.size W1) (Nat.le_refl _) _).cell (p := ⟨g, 0, none⟩) H1.out.lt).trans c0
   have a3 : (W1.alloc (.cells #[.string ⟨#[]⟩, .string ⟨#[]⟩] 45)).drew.cell? ⟨w.heap.size, 3, none⟩ = some (.string (BA tt)) := ((Below.alloc (Below.refl W1.heap.size W1) (Nat.le_refl _) _).cell (p := ⟨w.heap.size, 3, none⟩) HT.out.lt).trans q3
   have l1 := H1.out.lt
   have l2 := HT.out.lt
   go_wp2_with fail
   go_region_with (go_at_call 107; refine (KI.out _ ?_).mono ?_; (first | exact Below.drew (Below.refl _ _) | exact Below.alloc (Below.drew (Below.refl _ _)) (Nat.le_refl _) _); rintro e w9 ⟨rfl, hb⟩; have HB9 : Hid (Below W1.heap.size W1 w9) := (by first | exact chain5 (Below.drew (Below.refl _ _)) hb | exact chain5 (Below.alloc (Below.drew (Below.refl _ _)) (Nat.le_refl _) _) hb); (try (have HS9 : Hid (Sy.SB w9 W1.heap.size (.string ⟨#[]⟩) (.string ⟨#[]⟩)) := Sy.SB.keep (Sy.SB.new W1.drew (.string ⟨#[]⟩) (.string ⟨#[]⟩)) hb; have s0 := HS9.out.c0; have s1' := HS9.out.c1; have sf0 := SB.fr0 HS9.out; have sf1 := SB.fr1 HS9.out)))
   all_goals
    clear q1 q2 q3 d0 d3 a0 a3 c0 c1 c2 t0 t1 t2 t3 t4 cf hcr hcm l1 l2 HC
    first
    | (obtain ⟨W5, hW5⟩ : ∃ W5, w9.alloc (.cells #[.string s1, .string s2] 45) = W5 := ⟨_, rfl⟩
       rw [hW5]
       have HX : Hid (SymX w W5 w9.heap.size tk tp tq tt td s1 s2) := hW5 ▸ SymX.new HB.out HT.out HO.out HB9.out s1 s2
       clear hW5
       generalize w9.heap.size = gs at HX ⊢)
    | (obtain ⟨W5, hW5⟩ : ∃ W5, (w9.setCell ⟨W1.heap.size, 0, none⟩ (.string s1)).setCell ⟨W1.heap.size, 1, none⟩ (.string s2) = W5 := ⟨_, rfl⟩
       rw [hW5]
       have HX : Hid (SymX w W5 W1.heap.size tk tp tq tt td s1 s2) := hW5 ▸ SymX.old HB.out HT.out HO.out HB9.out HS9.out s1 s2
       clear hW5 s0 s1' sf0 sf1 HS9
       generalize W1.heap.size = gs at HX ⊢)
   all_goals
    by_cases her : er = 0
    · subst her
      have x0 := HX.out.s.c0
      have x1 := HX.out.s.c1
      go_wp2_with fail
      refine (symP s1 s2 _ (fun _ => False)).mono ?_
      rintro e w8 ⟨pp, rfl, hpp, hb8⟩
      obtain rfl := hpp.flat rfl
      have HO8 := Lib.hid (HX.out.o.keep hb8)
      have HB8 := Lib.hid (chain5 HX.out.bel hb8)
      clear hb8 hpp x0 x1
      go_wp2_with (refine storeV (w1 := w8) (S := fun _ => False) rfl (.tmp 4) (.tmp 34) rfl (w.heap.size + 1) (.sym (LA s1) (LA s2)) (.slice none 0 0) rfl rfl rfl 47 _ HO8.out rfl ?_)
      exact retO (t := 47) (cs := (cellsO (.sym (LA s1) (LA s2)) (.slice none 0 0)).toArray) rfl rfl (setRow_heap _ _ _ _ _ _ HO8.out) rfl (OutY.ok_ (bel_set _ HB8.out (Nat.le_succ _)))
    · have hz : (er != 0) = true := by rw [bne_iff_ne]; exact her
      have HER := Lib.hid her
      clear her
      have x1 : W5.cell? ⟨w.heap.size, 1, none⟩ = some (.int .i64 tp) := by rw [cell_of_row _ _ _ _ _ _ HX.out.t]; rfl
      go_wp2_with fail
      refine (reportB er tp _).mono ?_
      rintro e w8 ⟨rfl, rfl⟩
      exact ⟨rfl, OutY.bad_ HX.out.bel HER.out⟩
 · have e2 : (BA tq).toList.isEmpty = false := by rw [ba_empty]; exact decide_eq_false hq
   obtain rfl : BA tq = hm := (if_neg hq).symm.trans HHM.out
   clear hq HHM
   go_enter Tryz.func85, Tryz.ntmps85
   go_upto_region 1 with fail
   generalize ((w.alloc (.cells #[.int .i64 tk, .int .i64 tp, .string (BA tq), .string (BA tt), .string (BA td)] 68)).alloc (.cells #[.int .i64 0, .string ⟨#[]⟩, .string ⟨#[]⟩, .string ⟨#[]⟩, .string ⟨#[]⟩, .string ⟨#[]⟩, .slice none 0 0] 47)) = W1 at HB HT HO H1 ⊢
   obtain ⟨b, o, c, HC0⟩ := H1.out.open
   have c0 := HC0.c0
   have c1 := HC0.c1
   have c2 := HC0.c2
   have t0 := HC0.t0
   have t1 := HC0.t1
   have t2 := HC0.t2
   have t3 := HC0.t3
   have t4 := HC0.t4
   have hcr := HC0.hc
   have hcm := HC0.hm
   have cf := HC0.cf
   unfold maxLen at hcm
   have HC := Lib.hid HC0
   clear HC0
   have q1 : W1.cell? ⟨w.heap.size, 1, none⟩ = some (.int .i64 tp) := by rw [cell_of_row _ _ _ _ _ _ HT.out]; rfl
   have q2 : W1.cell? ⟨w.heap.size, 2, none⟩ = some (.string (BA tq)) := by rw [cell_of_row _ _ _ _ _ _ HT.out]; rfl
   have q3 : W1.cell? ⟨w.heap.size, 3, none⟩ = some (.string (BA tt)) := by rw [cell_of_row _ _ _ _ _ _ HT.out]; rfl
   go_upto_region 4 with fail
   have KI := Lib.hid (fun W2 hb => HI.out W1 W2 H1.out hb)
   have d0 : W1.drew.cell? ⟨g, 0, none⟩ = some lv := c0
   have d3 : W1.drew.cell? ⟨w.heap.size, 3, none⟩ = some (.string (BA tt)) := q3
   have a0 : (W1.alloc (.cells #[.string ⟨#[]⟩, .string ⟨#[]⟩] 45)).drew.cell? ⟨g, 0, none⟩ = some lv := ((Below.alloc (Below.refl W1.heap.size W1) (Nat.le_refl _) _).cell (p := ⟨g, 0, none⟩) H1.out.lt).trans c0
   have a3 : (W1.alloc (.cells #[.string ⟨#[]⟩, .string ⟨#[]⟩] 45)).drew.cell? ⟨w.heap.size, 3, none⟩ = some (.string (BA tt)) := ((Below.alloc (Below.refl W1.heap.size W1) (Nat.le_refl _) _).cell (p := ⟨w.heap.size, 3, none⟩) HT.out.lt).trans q3
   have l1 := H1.out.lt
   have l2 := HT.out.lt
   go_wp2_with fail
   go_region_with (go_at_call 107; refine (KI.out _ ?_).mono ?_; (first | exact Below.drew (Below.refl _ _) | exact Below.alloc (Below.drew (Below.refl _ _)) (Nat.le_refl _) _); rintro e w9 ⟨rfl, hb⟩; have HB9 : Hid (Below W1.heap.size W1 w9) := (by first | exact chain5 (Below.drew (Below.refl _ _)) hb | exact chain5 (Below.alloc (Below.drew (Below.refl _ _)) (Nat.le_refl _) _) hb); (try (have HS9 : Hid (Sy.SB w9 W1.heap.size (.string ⟨#[]⟩) (.string ⟨#[]⟩)) := Sy.SB.keep (Sy.SB.new W1.drew (.string ⟨#[]⟩) (.string ⟨#[]⟩)) hb; have s0 := HS9.out.c0; have s1' := HS9.out.c1; have sf0 := SB.fr0 HS9.out; have sf1 := SB.fr1 HS9.out)))
   all_goals
    clear q1 q2 q3 d0 d3 a0 a3 c0 c1 c2 t0 t1 t2 t3 t4 cf hcr hcm l1 l2 HC
    first
    | (obtain ⟨W5, hW5⟩ : ∃ W5, w9.alloc (.cells #[.string s1, .string s2] 45) = W5 := ⟨_, rfl⟩
       rw [hW5]
       have HX : Hid (SymX w W5 w9.heap.size tk tp tq tt td s1 s2) := hW5 ▸ SymX.new HB.out HT.out HO.out HB9.out s1 s2
       clear hW5
       generalize w9.heap.size = gs at HX ⊢)
    | (obtain ⟨W5, hW5⟩ : ∃ W5, (w9.setCell ⟨W1.heap.size, 0, none⟩ (.string s1)).setCell ⟨W1.heap.size, 1, none⟩ (.string s2) = W5 := ⟨_, rfl⟩
       rw [hW5]
       have HX : Hid (SymX w W5 W1.heap.size tk tp tq tt td s1 s2) := hW5 ▸ SymX.old HB.out HT.out HO.out HB9.out HS9.out s1 s2
       clear hW5 s0 s1' sf0 sf1 HS9
       generalize W1.heap.size = gs at HX ⊢)
   all_goals
    by_cases her : er = 0
    · subst her
      have x0 := HX.out.s.c0
      have x1 := HX.out.s.c1
      go_wp2_with fail
      refine (symP s1 s2 _ (fun _ => False)).mono ?_
      rintro e w8 ⟨pp, rfl, hpp, hb8⟩
      obtain rfl := hpp.flat rfl
      have HO8 := Lib.hid (HX.out.o.keep hb8)
      have HB8 := Lib.hid (chain5 HX.out.bel hb8)
      clear hb8 hpp x0 x1
      go_wp2_with (refine storeV (w1 := w8) (S := fun _ => False) rfl (.tmp 4) (.tmp 34) rfl (w.heap.size + 1) (.sym (LA s1) (LA s2)) (.slice none 0 0) rfl rfl rfl 47 _ HO8.out rfl ?_)
      exact retO (t := 47) (cs := (cellsO (.sym (LA s1) (LA s2)) (.slice none 0 0)).toArray) rfl rfl (setRow_heap _ _ _ _ _ _ HO8.out) rfl (OutY.ok_ (bel_set _ HB8.out (Nat.le_succ _)))
    · have hz : (er != 0) = true := by rw [bne_iff_ne]; exact her
      have HER := Lib.hid her
      clear her
      have x1 : W5.cell? ⟨w.heap.size, 1, none⟩ = some (.int .i64 tp) := by rw [cell_of_row _ _ _ _ _ _ HX.out.t]; rfl
      go_wp2_with fail
      refine (reportB er tp _).mono ?_
      rintro e w8 ⟨rfl, rfl⟩
      exact ⟨rfl, OutY.bad_ HX.out.bel HER.out⟩


theorem infoO : ∃ i, Tryz.prog.info? 47 = some i ∧ i.zero = some zeroO ∧ i.size = 7 ∧ i.bytes = 112 := info_of (P := Tryz.prog) (t := 47) (z := zeroO) (a := 7) (b := 112) (by kernel_rfl)
theorem RetX.le {w w' : World} {m m' : Nat} {e : Ending} (h : RetX w m e w') (hm : m ≤ m') : RetX w m' e w' := by
 obtain ⟨o, p, h1, h2, h3, h4⟩ := h
 exact ⟨o, p, h1, h2, h3, h4.1, Nat.le_trans h4.2 hm⟩

end Go.Proofs.YtflnffgohbbhiaaGreatDoor
