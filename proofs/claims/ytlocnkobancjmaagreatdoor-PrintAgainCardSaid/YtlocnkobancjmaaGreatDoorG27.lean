/- The parser: one object, given what a list is. -/
import Derived.Test.YtlocnkobancjmaaGreatDoorG26
import Derived.Test.YtlocnkobancjmaaGreatDoorG24
import Derived.Deep.RegionHeld3
namespace Go.Proofs.YtlocnkobancjmaaGreatDoor
open Go Go.RowKit
set_option linter.unusedVariables false
set_option maxHeartbeats 32000000
set_option maxRecDepth 100000
def numK (t : Tk) : Rat := quo t.txt t.den
def TkS (ts : List Tk) : Prop := ts.length ≤ 10000 ∧ ∀ t ∈ ts, t.k = 5 → t.txt.length ≤ 1000 ∧ t.den.length ≤ 1000
def OutP (W0 w : World) (g : Nat) (l : List Sy.Pg) (lv : Value) (cur : ByteArray) (R : Pr) (e : Ending) (w' : World) : Prop := match R with
 | .ok o r => ∃ p, e = .returned (vO o p) ∧ Pair w' (fun b => w.heap.size ≤ b ∧ b < w'.heap.size) o p ∧ Psr W0 w' g l lv cur r ∧ But g w w'
 | .bad x q => PanS w g x q e w'
 | .out => True
structure PgB (l : List Sy.Pg) : Prop where
 h1 : l.length ≤ 1000000
 h2 : ∀ p ∈ l, p.2.length ≤ 1000000
def ObC (f : Nat) : Prop := ∀ (W0 w : World) (g : Nat) (l : List Sy.Pg) (lv : Value) (cur : ByteArray) (d : Int) (ts : List Tk), Psr W0 w g l lv cur ts → WfT ts → TkS ts → PgB l → 0 ≤ d → d ≤ 300 → parF (symL l cur) numK f d ts ≠ .out →
 Calls Tryz.prog 112 #[.pointer (some ⟨g, 0, none⟩), .int .i64 d] w (OutP W0 w g l lv cur (parF (symL l cur) numK f d ts))
def LiC (f : Nat) : Prop := ∀ (W0 w : World) (g : Nat) (l : List Sy.Pg) (lv : Value) (cur : ByteArray) (d : Int) (ts : List Tk), Psr W0 w g l lv cur ts → WfT ts → TkS ts → PgB l → 0 ≤ d → d ≤ 300 → lisF (symL l cur) numK f d [] ts ≠ .out →
 Calls Tryz.prog 163 #[.pointer (some ⟨g, 0, none⟩), .int .i64 d] w (OutP W0 w g l lv cur (lisF (symL l cur) numK f d [] ts))
theorem ObB.but {W W' : World} {g k : Nat} {x : Array Value} (h : ObB W g x) (hb : But k W W') (hk : g ≠ k) : ObB W' g x := (hb.block g (Sy.blk_ltY h) hk).trans h
structure ObX (W0 w W : World) (g : Nat) (l : List Sy.Pg) (lv : Value) (cur : ByteArray) (r : List Tk) : Prop where
 hg : g < w.heap.size
 but : But g w W
 box : ObB W w.heap.size #[.int .i64 0, .string ⟨#[]⟩, .string ⟨#[]⟩, .string ⟨#[]⟩, .string ⟨#[]⟩, .string ⟨#[]⟩, .slice none 0 0]
 ps : Psr W0 W g l lv cur r
theorem ObX.keep {W0 w W W' : World} {g : Nat} {l : List Sy.Pg} {lv : Value} {cur : ByteArray} {r : List Tk} (h : ObX W0 w W g l lv cur r) (hb : Below W.heap.size W W') : ObX W0 w W' g l lv cur r := ⟨h.hg, h.but.trans (But.of hb), h.box.keep hb, h.ps.keep hb⟩
theorem ObX.next {W0 w W W' : World} {g : Nat} {l : List Sy.Pg} {lv : Value} {cur : ByteArray} {r r' : List Tk} (h : ObX W0 w W g l lv cur r) (hb : But g W W') (hp : Psr W0 W' g l lv cur r') : ObX W0 w W' g l lv cur r' := ⟨h.hg, h.but.trans hb, h.box.but hb (by have := h.hg; omega), hp⟩
theorem ObX.new {W0 w : World} {g : Nat} {l : List Sy.Pg} {lv : Value} {cur : ByteArray} {r : List Tk} (h : Psr W0 w g l lv cur r) : ObX W0 w (w.alloc (.cells #[.int .i64 0, .string ⟨#[]⟩, .string ⟨#[]⟩, .string ⟨#[]⟩, .string ⟨#[]⟩, .string ⟨#[]⟩, .slice none 0 0] 27)) g l lv cur r := by
 have hb := Below.alloc (Below.refl w.heap.size w) (Nat.le_refl _) (.cells #[.int .i64 0, .string ⟨#[]⟩, .string ⟨#[]⟩, .string ⟨#[]⟩, .string ⟨#[]⟩, .string ⟨#[]⟩, .slice none 0 0] 27)
 exact ⟨h.lt, But.of hb, heap_alloc_new _ _, h.keep hb⟩
theorem ObX.fin {W0 w W : World} {g : Nat} {l : List Sy.Pg} {lv : Value} {cur : ByteArray} {r : List Tk} {o : Ob} {p : Value} {S : Nat → Prop} (h : ObX W0 w W g l lv cur r) (hp : Pair W S o p) (hS : ∀ b, S b → w.heap.size < b ∧ b < W.heap.size) :
 OutP W0 w g l lv cur (.ok o r) (.returned (vO o p)) (W.setRow w.heap.size (cellsO o p).toArray) := by
 refine ⟨p, rfl, ?_, h.ps.row h.hg _, h.but.row (Nat.le_refl _) _⟩
 refine (hp.setRow w.heap.size (fun hh => absurd (hS _ hh).1 (Nat.lt_irrefl _)) _).more fun b hb => ?_
 have := hS b hb
 rw [setRow_size]
 omega
theorem RetO.new {w w' : World} {o : Ob} {e : Ending} (h : RetO w (fun _ => False) o e w') : ∃ p, e = .returned (vO o p) ∧ Pair w' (fun b => w.heap.size ≤ b ∧ b < w'.heap.size) o p ∧ Below w.heap.size w w' := by
 obtain ⟨p, h1, h2, h3⟩ := h
 exact ⟨p, h1, h2.more fun b hb => hb.resolve_left id, h3⟩
theorem closeEnd (W0 w : World) (g : Nat) (l : List Sy.Pg) (lv : Value) (cur : ByteArray) (t : Tk) (r : List Tk) (h : Psr W0 w g l lv cur (t :: r)) (hw : WfT (t :: r)) (hk : t.k = 0) : Calls Tryz.prog 219 #[.pointer (some ⟨g, 0, none⟩)] w (PanS w g 11 t.p) := by
 have KT := hI (takeEnd W0 w g l lv cur t r h hk)
 clear h hw hk
 go_enter Tryz.func219, Tryz.ntmps219
 go_wp2_with fail
 refine KT.out.mono ?_
 rintro e w1 ⟨rfl, hb⟩
 exact ⟨rfl, rfl, hb⟩
theorem closeBad (W0 w : World) (g : Nat) (l : List Sy.Pg) (lv : Value) (cur : ByteArray) (t : Tk) (r : List Tk) (h : Psr W0 w g l lv cur (t :: r)) (hw : WfT (t :: r)) (hk : t.k ≠ 0) (hk2 : t.k ≠ 2) : Calls Tryz.prog 219 #[.pointer (some ⟨g, 0, none⟩)] w (PanS w g 12 t.p) := by
 have KT := hI (takeOk W0 w g l lv cur t r h hk (hw.tail hk).ne)
 obtain ⟨tk, tp, tq, tt, td⟩ := t
 replace KT : Hid (Calls Tryz.prog 159 #[.pointer (some ⟨g, 0, none⟩)] w (fun e w' => e = .returned (.agg #[.int .i64 tk, .int .i64 tp, .string (BA tq), .string (BA tt), .string (BA td)]) ∧ Psr W0 w' g l lv cur r ∧ But g w w')) := KT
 have hz : (tk != 2) = true := by rw [bne_iff_ne]; exact hk2
 clear h hw hk hk2
 go_enter Tryz.func219, Tryz.ntmps219
 go_wp2_with fail
 refine KT.out.mono ?_
 rintro e w1 ⟨rfl, hp, hb⟩
 have HP := hI (hp.keep (Below.alloc (Below.refl w1.heap.size w1) (Nat.le_refl _) (.cells #[.int .i64 tk, .int .i64 tp, .string (BA tq), .string (BA tt), .string (BA td)] 157)))
 have HB := hI (hb.trans (But.of (Below.alloc (Below.refl w1.heap.size w1) (Nat.le_refl _) (.cells #[.int .i64 tk, .int .i64 tp, .string (BA tq), .string (BA tt), .string (BA td)] 157))))
 clear hp hb
 go_wp2_with fail
 refine (reportP 12 _ _ g).mono ?_
 rintro e w2 ⟨rfl, hb⟩
 exact ⟨rfl, rfl, HB.out.trans hb⟩
theorem closeOk (W0 w : World) (g : Nat) (l : List Sy.Pg) (lv : Value) (cur : ByteArray) (t : Tk) (r : List Tk) (h : Psr W0 w g l lv cur (t :: r)) (hw : WfT (t :: r)) (hk2 : t.k = 2) : Calls Tryz.prog 219 #[.pointer (some ⟨g, 0, none⟩)] w (fun e w' => e = .returned (.tuple #[]) ∧ Psr W0 w' g l lv cur r ∧ But g w w') := by
 have hk : t.k ≠ 0 := by omega
 have KT := hI (takeOk W0 w g l lv cur t r h hk (hw.tail hk).ne)
 obtain ⟨tk, tp, tq, tt, td⟩ := t
 replace KT : Hid (Calls Tryz.prog 159 #[.pointer (some ⟨g, 0, none⟩)] w (fun e w' => e = .returned (.agg #[.int .i64 tk, .int .i64 tp, .string (BA tq), .string (BA tt), .string (BA td)]) ∧ Psr W0 w' g l lv cur r ∧ But g w w')) := KT
 have hz : (tk != 2) = false := by have : tk = 2 := hk2; rw [this]; rfl
 clear h hw hk hk2
 go_enter Tryz.func219, Tryz.ntmps219
 go_wp2_with fail
 refine KT.out.mono ?_
 rintro e w1 ⟨rfl, hp, hb⟩
 have HP := hI (hp.keep (Below.alloc (Below.refl w1.heap.size w1) (Nat.le_refl _) (.cells #[.int .i64 tk, .int .i64 tp, .string (BA tq), .string (BA tt), .string (BA td)] 157)))
 have HB := hI (hb.trans (But.of (Below.alloc (Below.refl w1.heap.size w1) (Nat.le_refl _) (.cells #[.int .i64 tk, .int .i64 tp, .string (BA tq), .string (BA tt), .string (BA td)] 157))))
 clear hp hb
 go_wp2_with fail
 go_end0
 exact ⟨rfl, HP.out, HB.out⟩
theorem objEnd (f : Nat) (W0 w : World) (g : Nat) (l : List Sy.Pg) (lv : Value) (cur : ByteArray) (d : Int) (t : Tk) (r : List Tk) (h : Psr W0 w g l lv cur (t :: r)) (hk : t.k = 0) : Calls Tryz.prog 112 #[.pointer (some ⟨g, 0, none⟩), .int .i64 d] w (PanS w g 11 t.p) := by
 have HX := hI (ObX.new h)
 have KT := hI (fun w h => takeEnd W0 w g l lv cur t r h hk)
 clear h hk
 go_enter Tryz.func112, Tryz.ntmps112
 go_wp2_with fail
 refine (KT.out _ HX.out.ps).mono ?_
 rintro e w1 ⟨rfl, hb⟩
 exact ⟨rfl, rfl, HX.out.but.trans hb⟩
theorem objNum (W0 w : World) (g : Nat) (l : List Sy.Pg) (lv : Value) (cur : ByteArray) (d : Int) (tk tp : Int) (tq tt td : List UInt8) (r : List Tk) (h : Psr W0 w g l lv cur (⟨tk, tp, tq, tt, td⟩ :: r)) (hw : WfT (⟨tk, tp, tq, tt, td⟩ :: r)) (hk : tk = 5) (hs : tt.length ≤ 1000 ∧ td.length ≤ 1000) : Calls Tryz.prog 112 #[.pointer (some ⟨g, 0, none⟩), .int .i64 d] w (OutP W0 w g l lv cur (.ok (.num (quo tt td)) r)) := by
 have k5 : (tk == 5) = true := by rw [beq_iff_eq]; omega
 have hs1 := hs.1
 have hs2 := hs.2
 have hk0 : tk ≠ 0 := by omega
 have HX := hI (ObX.new h)
 have KT : Hid (∀ w, Psr W0 w g l lv cur (⟨tk, tp, tq, tt, td⟩ :: r) → Calls Tryz.prog 159 #[.pointer (some ⟨g, 0, none⟩)] w (fun e w' => e = .returned (.agg #[.int .i64 tk, .int .i64 tp, .string (BA tq), .string (BA tt), .string (BA td)]) ∧ Psr W0 w' g l lv cur r ∧ But g w w')) := fun w h => takeOk W0 w g l lv cur ⟨tk, tp, tq, tt, td⟩ r h hk0 (hw.tail hk0).ne
 have HW := hI (hw.tail hk0)
 clear h hw hk0 hk hs
 go_enter Tryz.func112, Tryz.ntmps112
 go_wp2_with fail
 refine (KT.out _ HX.out.ps).mono ?_
 rintro e w1 ⟨rfl, hp, hb⟩
 replace HX := hI ((HX.out.next hb hp).keep (Below.alloc (Below.refl w1.heap.size w1) (Nat.le_refl _) (.cells #[.int .i64 tk, .int .i64 tp, .string (BA tq), .string (BA tt), .string (BA td)] 157)))
 have HT := hI (TB.new w1 #[.int .i64 tk, .int .i64 tp, .string (BA tq), .string (BA tt), .string (BA td)])
 have hlt : w.heap.size < w1.heap.size + 1 := by have := Sy.blk_ltY HX.out.box; simpa using this
 clear hp hb
 go_upto_region 2 with fail
 generalize (w1.alloc (.cells #[.int .i64 tk, .int .i64 tp, .string (BA tq), .string (BA tt), .string (BA td)] 157)) = W1 at HX HT ⊢
 generalize w1.heap.size = g5 at HT hlt ⊢
 have q0 : W1.cell? ⟨g5, 0, none⟩ = some (.int .i64 tk) := by rw [cell_of_row _ _ _ _ _ _ HT.out]; rfl
 have q1 : W1.cell? ⟨g5, 1, none⟩ = some (.int .i64 tp) := by rw [cell_of_row _ _ _ _ _ _ HT.out]; rfl
 have q3 : W1.cell? ⟨g5, 3, none⟩ = some (.string (BA tt)) := by rw [cell_of_row _ _ _ _ _ _ HT.out]; rfl
 have q4 : W1.cell? ⟨g5, 4, none⟩ = some (.string (BA td)) := by rw [cell_of_row _ _ _ _ _ _ HT.out]; rfl
 have HLT := hI hlt
 clear hlt
 go_wp2_with fail
 refine (ratP (BA tt) (BA td) _ (fun _ => False) (fun _ h => h.elim) (by have := ba_len tt; omega) (by have := ba_len td; omega)).mono ?_
 intro e w2 ho
 obtain ⟨p, rfl, hp, hb⟩ := RetO.new ho
 have HX1 : Hid (w.heap.size < W1.heap.size) := Sy.blk_ltY HX.out.box
 replace HX := hI (HX.out.keep hb)
 clear hb ho q0 q1 q3 q4
 go_wp2_with (refine storeV rfl (.tmp 4) (.tmp 17) rfl w.heap.size (.num (quo tt td)) p rfl rfl hp 27 _ HX.out.box rfl ?_)
 exact retO rfl rfl (setRow_heap _ _ _ _ _ _ HX.out.box) (by simp [cellsO_length]) (HX.out.fin hp (fun b hb => ⟨by have := HX1.out; omega, hb.2⟩))
theorem objSymZ (W0 w : World) (g : Nat) (l : List Sy.Pg) (lv : Value) (cur : ByteArray) (d : Int) (tk tp : Int) (tq tt td : List UInt8) (r : List Tk) (h : Psr W0 w g l lv cur (⟨tk, tp, tq, tt, td⟩ :: r)) (hw : WfT (⟨tk, tp, tq, tt, td⟩ :: r)) (hk : tk = 6) (hpb : PgB l) (m1 m2 : List UInt8) (hm : symL l cur ⟨tk, tp, tq, tt, td⟩ = ((m1, m2), 0)) : Calls Tryz.prog 112 #[.pointer (some ⟨g, 0, none⟩), .int .i64 d] w (OutP W0 w g l lv cur (.ok (.sym m1 m2) r)) := by
 have k5 : (tk == 5) = false := by rw [beq_eq_false_iff_ne]; omega
 have k6 : (tk == 6) = true := by rw [beq_iff_eq]; omega
 have HM := hI hm
 have HPB := hI hpb
 have hk0 : tk ≠ 0 := by omega
 have HX := hI (ObX.new h)
 have KT : Hid (∀ w, Psr W0 w g l lv cur (⟨tk, tp, tq, tt, td⟩ :: r) → Calls Tryz.prog 159 #[.pointer (some ⟨g, 0, none⟩)] w (fun e w' => e = .returned (.agg #[.int .i64 tk, .int .i64 tp, .string (BA tq), .string (BA tt), .string (BA td)]) ∧ Psr W0 w' g l lv cur r ∧ But g w w')) := fun w h => takeOk W0 w g l lv cur ⟨tk, tp, tq, tt, td⟩ r h hk0 (hw.tail hk0).ne
 have HW := hI (hw.tail hk0)
 clear h hw hk0 hk hm hpb
 go_enter Tryz.func112, Tryz.ntmps112
 go_wp2_with fail
 refine (KT.out _ HX.out.ps).mono ?_
 rintro e w1 ⟨rfl, hp, hb⟩
 replace HX := hI ((HX.out.next hb hp).keep (Below.alloc (Below.refl w1.heap.size w1) (Nat.le_refl _) (.cells #[.int .i64 tk, .int .i64 tp, .string (BA tq), .string (BA tt), .string (BA td)] 157)))
 have HT := hI (TB.new w1 #[.int .i64 tk, .int .i64 tp, .string (BA tq), .string (BA tt), .string (BA td)])
 have hlt : w.heap.size < w1.heap.size + 1 := by have := Sy.blk_ltY HX.out.box; simpa using this
 clear hp hb
 go_upto_region 2 with fail
 generalize (w1.alloc (.cells #[.int .i64 tk, .int .i64 tp, .string (BA tq), .string (BA tt), .string (BA td)] 157)) = W1 at HX HT ⊢
 generalize w1.heap.size = g5 at HT hlt ⊢
 have q0 : W1.cell? ⟨g5, 0, none⟩ = some (.int .i64 tk) := by rw [cell_of_row _ _ _ _ _ _ HT.out]; rfl
 have q1 : W1.cell? ⟨g5, 1, none⟩ = some (.int .i64 tp) := by rw [cell_of_row _ _ _ _ _ _ HT.out]; rfl
 have q3 : W1.cell? ⟨g5, 3, none⟩ = some (.string (BA tt)) := by rw [cell_of_row _ _ _ _ _ _ HT.out]; rfl
 have q4 : W1.cell? ⟨g5, 4, none⟩ = some (.string (BA td)) := by rw [cell_of_row _ _ _ _ _ _ HT.out]; rfl
 have HLT := hI hlt
 clear hlt
 have c2 : W1.cell? ⟨g5, 2, none⟩ = some (.string (BA tq)) := by rw [cell_of_row _ _ _ _ _ _ HT.out]; rfl
 go_wp2_with fail
 refine (symbolPs W0 _ g l lv cur r tk tp tq tt td HX.out.ps HW.out.ne HPB.out.h1 HPB.out.h2).mono ?_
 rintro e w2 ⟨hb, he⟩
 rw [HM.out] at he
 rw [if_pos rfl] at he
 subst he
 have HX1 : Hid (w.heap.size < W1.heap.size) := Sy.blk_ltY HX.out.box
 replace HX := hI (HX.out.keep hb)
 clear hb q0 q1 q3 q4 c2
 obtain ⟨p, hpe⟩ : ∃ p : Value, p = .slice none 0 0 := ⟨_, rfl⟩
 rw [← hpe]
 have hp : Pair w2 (fun _ => False) (.sym m1 m2) p := hpe
 clear hpe
 go_wp2_with (refine storeV rfl (.tmp 4) (.tmp 22) rfl w.heap.size (.sym m1 m2) p rfl rfl hp 27 _ HX.out.box rfl ?_)
 exact retO rfl rfl (setRow_heap _ _ _ _ _ _ HX.out.box) (by simp [cellsO_length]) (HX.out.fin hp (fun b hb => hb.elim))
theorem objSymBad (W0 w : World) (g : Nat) (l : List Sy.Pg) (lv : Value) (cur : ByteArray) (d : Int) (tk tp : Int) (tq tt td : List UInt8) (r : List Tk) (h : Psr W0 w g l lv cur (⟨tk, tp, tq, tt, td⟩ :: r)) (hw : WfT (⟨tk, tp, tq, tt, td⟩ :: r)) (hk : tk = 6) (hpb : PgB l) (m : List UInt8 × List UInt8) (x : Int) (hx : ¬ x = 0) (hm : symL l cur ⟨tk, tp, tq, tt, td⟩ = (m, x)) : Calls Tryz.prog 112 #[.pointer (some ⟨g, 0, none⟩), .int .i64 d] w (PanS w g x tp) := by
 have k5 : (tk == 5) = false := by rw [beq_eq_false_iff_ne]; omega
 have k6 : (tk == 6) = true := by rw [beq_iff_eq]; omega
 have HM := hI hm
 have HPB := hI hpb
 have HXE := hI hx
 have hk0 : tk ≠ 0 := by omega
 have HX := hI (ObX.new h)
 have KT : Hid (∀ w, Psr W0 w g l lv cur (⟨tk, tp, tq, tt, td⟩ :: r) → Calls Tryz.prog 159 #[.pointer (some ⟨g, 0, none⟩)] w (fun e w' => e = .returned (.agg #[.int .i64 tk, .int .i64 tp, .string (BA tq), .string (BA tt), .string (BA td)]) ∧ Psr W0 w' g l lv cur r ∧ But g w w')) := fun w h => takeOk W0 w g l lv cur ⟨tk, tp, tq, tt, td⟩ r h hk0 (hw.tail hk0).ne
 have HW := hI (hw.tail hk0)
 clear h hw hk0 hk hm hpb hx
 go_enter Tryz.func112, Tryz.ntmps112
 go_wp2_with fail
 refine (KT.out _ HX.out.ps).mono ?_
 rintro e w1 ⟨rfl, hp, hb⟩
 replace HX := hI ((HX.out.next hb hp).keep (Below.alloc (Below.refl w1.heap.size w1) (Nat.le_refl _) (.cells #[.int .i64 tk, .int .i64 tp, .string (BA tq), .string (BA tt), .string (BA td)] 157)))
 have HT := hI (TB.new w1 #[.int .i64 tk, .int .i64 tp, .string (BA tq), .string (BA tt), .string (BA td)])
 have hlt : w.heap.size < w1.heap.size + 1 := by have := Sy.blk_ltY HX.out.box; simpa using this
 clear hp hb
 go_upto_region 2 with fail
 generalize (w1.alloc (.cells #[.int .i64 tk, .int .i64 tp, .string (BA tq), .string (BA tt), .string (BA td)] 157)) = W1 at HX HT ⊢
 generalize w1.heap.size = g5 at HT hlt ⊢
 have q0 : W1.cell? ⟨g5, 0, none⟩ = some (.int .i64 tk) := by rw [cell_of_row _ _ _ _ _ _ HT.out]; rfl
 have q1 : W1.cell? ⟨g5, 1, none⟩ = some (.int .i64 tp) := by rw [cell_of_row _ _ _ _ _ _ HT.out]; rfl
 have q3 : W1.cell? ⟨g5, 3, none⟩ = some (.string (BA tt)) := by rw [cell_of_row _ _ _ _ _ _ HT.out]; rfl
 have q4 : W1.cell? ⟨g5, 4, none⟩ = some (.string (BA td)) := by rw [cell_of_row _ _ _ _ _ _ HT.out]; rfl
 have HLT := hI hlt
 clear hlt
 have c2 : W1.cell? ⟨g5, 2, none⟩ = some (.string (BA tq)) := by rw [cell_of_row _ _ _ _ _ _ HT.out]; rfl
 go_wp2_with fail
 refine (symbolPs W0 _ g l lv cur r tk tp tq tt td HX.out.ps HW.out.ne HPB.out.h1 HPB.out.h2).mono ?_
 rintro e w2 ⟨hb, he⟩
 rw [HM.out] at he
 rw [if_neg HXE.out] at he
 subst he
 exact ⟨rfl, rfl, HX.out.but.trans (But.of hb)⟩
theorem objStr (W0 w : World) (g : Nat) (l : List Sy.Pg) (lv : Value) (cur : ByteArray) (d : Int) (tk tp : Int) (tq tt td : List UInt8) (r : List Tk) (h : Psr W0 w g l lv cur (⟨tk, tp, tq, tt, td⟩ :: r)) (hw : WfT (⟨tk, tp, tq, tt, td⟩ :: r)) (hk : tk = 7) : Calls Tryz.prog 112 #[.pointer (some ⟨g, 0, none⟩), .int .i64 d] w (OutP W0 w g l lv cur (.ok (.str tt) r)) := by
 have k5 : (tk == 5) = false := by rw [beq_eq_false_iff_ne]; omega
 have k6 : (tk == 6) = false := by rw [beq_eq_false_iff_ne]; omega
 have k7 : (tk == 7) = true := by rw [beq_iff_eq]; omega
 have hk0 : tk ≠ 0 := by omega
 have HX := hI (ObX.new h)
 have KT : Hid (∀ w, Psr W0 w g l lv cur (⟨tk, tp, tq, tt, td⟩ :: r) → Calls Tryz.prog 159 #[.pointer (some ⟨g, 0, none⟩)] w (fun e w' => e = .returned (.agg #[.int .i64 tk, .int .i64 tp, .string (BA tq), .string (BA tt), .string (BA td)]) ∧ Psr W0 w' g l lv cur r ∧ But g w w')) := fun w h => takeOk W0 w g l lv cur ⟨tk, tp, tq, tt, td⟩ r h hk0 (hw.tail hk0).ne
 have HW := hI (hw.tail hk0)
 clear h hw hk0 hk
 go_enter Tryz.func112, Tryz.ntmps112
 go_wp2_with fail
 refine (KT.out _ HX.out.ps).mono ?_
 rintro e w1 ⟨rfl, hp, hb⟩
 replace HX := hI ((HX.out.next hb hp).keep (Below.alloc (Below.refl w1.heap.size w1) (Nat.le_refl _) (.cells #[.int .i64 tk, .int .i64 tp, .string (BA tq), .string (BA tt), .string (BA td)] 157)))
 have HT := hI (TB.new w1 #[.int .i64 tk, .int .i64 tp, .string (BA tq), .string (BA tt), .string (BA td)])
 have hlt : w.heap.size < w1.heap.size + 1 := by have := Sy.blk_ltY HX.out.box; simpa using this
 clear hp hb
 go_upto_region 2 with fail
 generalize (w1.alloc (.cells #[.int .i64 tk, .int .i64 tp, .string (BA tq), .string (BA tt), .string (BA td)] 157)) = W1 at HX HT ⊢
 generalize w1.heap.size = g5 at HT hlt ⊢
 have q0 : W1.cell? ⟨g5, 0, none⟩ = some (.int .i64 tk) := by rw [cell_of_row _ _ _ _ _ _ HT.out]; rfl
 have q1 : W1.cell? ⟨g5, 1, none⟩ = some (.int .i64 tp) := by rw [cell_of_row _ _ _ _ _ _ HT.out]; rfl
 have q3 : W1.cell? ⟨g5, 3, none⟩ = some (.string (BA tt)) := by rw [cell_of_row _ _ _ _ _ _ HT.out]; rfl
 have q4 : W1.cell? ⟨g5, 4, none⟩ = some (.string (BA td)) := by rw [cell_of_row _ _ _ _ _ _ HT.out]; rfl
 have HLT := hI hlt
 clear hlt
 go_wp2_with fail
 refine (textP (BA tt) _ (fun _ => False)).mono ?_
 intro e w2 ho
 obtain ⟨p, rfl, hp, hb⟩ := RetO.new ho
 have HX1 : Hid (w.heap.size < W1.heap.size) := Sy.blk_ltY HX.out.box
 replace HX := hI (HX.out.keep hb)
 clear hb ho q0 q1 q3 q4
 go_wp2_with (refine storeV rfl (.tmp 4) (.tmp 27) rfl w.heap.size (.str tt) p rfl rfl hp 27 _ HX.out.box rfl ?_)
 exact retO rfl rfl (setRow_heap _ _ _ _ _ _ HX.out.box) (by simp [cellsO_length]) (HX.out.fin hp (fun b hb => ⟨by have := HX1.out; omega, hb.2⟩))
theorem objClose (W0 w : World) (g : Nat) (l : List Sy.Pg) (lv : Value) (cur : ByteArray) (d : Int) (tk tp : Int) (tq tt td : List UInt8) (r : List Tk) (h : Psr W0 w g l lv cur (⟨tk, tp, tq, tt, td⟩ :: r)) (hw : WfT (⟨tk, tp, tq, tt, td⟩ :: r)) (hk : tk = 2) : Calls Tryz.prog 112 #[.pointer (some ⟨g, 0, none⟩), .int .i64 d] w (PanS w g 12 tp) := by
 have k5 : (tk == 5) = false := by rw [beq_eq_false_iff_ne]; omega
 have k6 : (tk == 6) = false := by rw [beq_eq_false_iff_ne]; omega
 have k7 : (tk == 7) = false := by rw [beq_eq_false_iff_ne]; omega
 have k2 : (tk == 2) = true := by rw [beq_iff_eq]; omega
 have hk0 : tk ≠ 0 := by omega
 have HX := hI (ObX.new h)
 have KT : Hid (∀ w, Psr W0 w g l lv cur (⟨tk, tp, tq, tt, td⟩ :: r) → Calls Tryz.prog 159 #[.pointer (some ⟨g, 0, none⟩)] w (fun e w' => e = .returned (.agg #[.int .i64 tk, .int .i64 tp, .string (BA tq), .string (BA tt), .string (BA td)]) ∧ Psr W0 w' g l lv cur r ∧ But g w w')) := fun w h => takeOk W0 w g l lv cur ⟨tk, tp, tq, tt, td⟩ r h hk0 (hw.tail hk0).ne
 have HW := hI (hw.tail hk0)
 clear h hw hk0 hk
 go_enter Tryz.func112, Tryz.ntmps112
 go_wp2_with fail
 refine (KT.out _ HX.out.ps).mono ?_
 rintro e w1 ⟨rfl, hp, hb⟩
 replace HX := hI ((HX.out.next hb hp).keep (Below.alloc (Below.refl w1.heap.size w1) (Nat.le_refl _) (.cells #[.int .i64 tk, .int .i64 tp, .string (BA tq), .string (BA tt), .string (BA td)] 157)))
 have HT := hI (TB.new w1 #[.int .i64 tk, .int .i64 tp, .string (BA tq), .string (BA tt), .string (BA td)])
 have hlt : w.heap.size < w1.heap.size + 1 := by have := Sy.blk_ltY HX.out.box; simpa using this
 clear hp hb
 go_upto_region 2 with fail
 generalize (w1.alloc (.cells #[.int .i64 tk, .int .i64 tp, .string (BA tq), .string (BA tt), .string (BA td)] 157)) = W1 at HX HT ⊢
 generalize w1.heap.size = g5 at HT hlt ⊢
 have q0 : W1.cell? ⟨g5, 0, none⟩ = some (.int .i64 tk) := by rw [cell_of_row _ _ _ _ _ _ HT.out]; rfl
 have q1 : W1.cell? ⟨g5, 1, none⟩ = some (.int .i64 tp) := by rw [cell_of_row _ _ _ _ _ _ HT.out]; rfl
 have q3 : W1.cell? ⟨g5, 3, none⟩ = some (.string (BA tt)) := by rw [cell_of_row _ _ _ _ _ _ HT.out]; rfl
 have q4 : W1.cell? ⟨g5, 4, none⟩ = some (.string (BA td)) := by rw [cell_of_row _ _ _ _ _ _ HT.out]; rfl
 have HLT := hI hlt
 clear hlt
 go_wp2_with fail
 refine (reportP 12 _ _ g).mono ?_
 rintro e w2 ⟨rfl, hb⟩
 exact ⟨rfl, rfl, HX.out.but.trans hb⟩
theorem objDot (W0 w : World) (g : Nat) (l : List Sy.Pg) (lv : Value) (cur : ByteArray) (d : Int) (tk tp : Int) (tq tt td : List UInt8) (r : List Tk) (h : Psr W0 w g l lv cur (⟨tk, tp, tq, tt, td⟩ :: r)) (hw : WfT (⟨tk, tp, tq, tt, td⟩ :: r)) (hk : tk = 3) : Calls Tryz.prog 112 #[.pointer (some ⟨g, 0, none⟩), .int .i64 d] w (PanS w g 12 tp) := by
 have k5 : (tk == 5) = false := by rw [beq_eq_false_iff_ne]; omega
 have k6 : (tk == 6) = false := by rw [beq_eq_false_iff_ne]; omega
 have k7 : (tk == 7) = false := by rw [beq_eq_false_iff_ne]; omega
 have k2 : (tk == 2) = false := by rw [beq_eq_false_iff_ne]; omega
 have k3 : (tk == 3) = true := by rw [beq_iff_eq]; omega
 have hk0 : tk ≠ 0 := by omega
 have HX := hI (ObX.new h)
 have KT : Hid (∀ w, Psr W0 w g l lv cur (⟨tk, tp, tq, tt, td⟩ :: r) → Calls Tryz.prog 159 #[.pointer (some ⟨g, 0, none⟩)] w (fun e w' => e = .returned (.agg #[.int .i64 tk, .int .i64 tp, .string (BA tq), .string (BA tt), .string (BA td)]) ∧ Psr W0 w' g l lv cur r ∧ But g w w')) := fun w h => takeOk W0 w g l lv cur ⟨tk, tp, tq, tt, td⟩ r h hk0 (hw.tail hk0).ne
 have HW := hI (hw.tail hk0)
 clear h hw hk0 hk
 go_enter Tryz.func112, Tryz.ntmps112
 go_wp2_with fail
 refine (KT.out _ HX.out.ps).mono ?_
 rintro e w1 ⟨rfl, hp, hb⟩
 replace HX := hI ((HX.out.next hb hp).keep (Below.alloc (Below.refl w1.heap.size w1) (Nat.le_refl _) (.cells #[.int .i64 tk, .int .i64 tp, .string (BA tq), .string (BA tt), .string (BA td)] 157)))
 have HT := hI (TB.new w1 #[.int .i64 tk, .int .i64 tp, .string (BA tq), .string (BA tt), .string (BA td)])
 have hlt : w.heap.size < w1.heap.size + 1 := by have := Sy.blk_ltY HX.out.box; simpa using this
 clear hp hb
 go_upto_region 2 with fail
 generalize (w1.alloc (.cells #[.int .i64 tk, .int .i64 tp, .string (BA tq), .string (BA tt), .string (BA td)] 157)) = W1 at HX HT ⊢
 generalize w1.heap.size = g5 at HT hlt ⊢
 have q0 : W1.cell? ⟨g5, 0, none⟩ = some (.int .i64 tk) := by rw [cell_of_row _ _ _ _ _ _ HT.out]; rfl
 have q1 : W1.cell? ⟨g5, 1, none⟩ = some (.int .i64 tp) := by rw [cell_of_row _ _ _ _ _ _ HT.out]; rfl
 have q3 : W1.cell? ⟨g5, 3, none⟩ = some (.string (BA tt)) := by rw [cell_of_row _ _ _ _ _ _ HT.out]; rfl
 have q4 : W1.cell? ⟨g5, 4, none⟩ = some (.string (BA td)) := by rw [cell_of_row _ _ _ _ _ _ HT.out]; rfl
 have HLT := hI hlt
 clear hlt
 go_wp2_with fail
 refine (reportP 12 _ _ g).mono ?_
 rintro e w2 ⟨rfl, hb⟩
 exact ⟨rfl, rfl, HX.out.but.trans hb⟩
theorem objDeep (W0 w : World) (g : Nat) (l : List Sy.Pg) (lv : Value) (cur : ByteArray) (d : Int) (tk tp : Int) (tq tt td : List UInt8) (r : List Tk) (h : Psr W0 w g l lv cur (⟨tk, tp, tq, tt, td⟩ :: r)) (hw : WfT (⟨tk, tp, tq, tt, td⟩ :: r)) (hk0' : tk ≠ 0) (n5 : tk ≠ 5) (n6 : tk ≠ 6) (n7 : tk ≠ 7) (n2 : tk ≠ 2) (n3 : tk ≠ 3) (hd : 200 < d) : Calls Tryz.prog 112 #[.pointer (some ⟨g, 0, none⟩), .int .i64 d] w (PanS w g 2 tp) := by
 have k5 : (tk == 5) = false := by rw [beq_eq_false_iff_ne]; omega
 have k6 : (tk == 6) = false := by rw [beq_eq_false_iff_ne]; omega
 have k7 : (tk == 7) = false := by rw [beq_eq_false_iff_ne]; omega
 have k2 : (tk == 2) = false := by rw [beq_eq_false_iff_ne]; omega
 have k3 : (tk == 3) = false := by rw [beq_eq_false_iff_ne]; omega
 have hk0 : tk ≠ 0 := by omega
 have HX := hI (ObX.new h)
 have KT : Hid (∀ w, Psr W0 w g l lv cur (⟨tk, tp, tq, tt, td⟩ :: r) → Calls Tryz.prog 159 #[.pointer (some ⟨g, 0, none⟩)] w (fun e w' => e = .returned (.agg #[.int .i64 tk, .int .i64 tp, .string (BA tq), .string (BA tt), .string (BA td)]) ∧ Psr W0 w' g l lv cur r ∧ But g w w')) := fun w h => takeOk W0 w g l lv cur ⟨tk, tp, tq, tt, td⟩ r h hk0 (hw.tail hk0).ne
 have HW := hI (hw.tail hk0)
 clear h hw hk0 hk0' n5 n6 n7 n2 n3
 go_enter Tryz.func112, Tryz.ntmps112
 go_wp2_with fail
 refine (KT.out _ HX.out.ps).mono ?_
 rintro e w1 ⟨rfl, hp, hb⟩
 replace HX := hI ((HX.out.next hb hp).keep (Below.alloc (Below.refl w1.heap.size w1) (Nat.le_refl _) (.cells #[.int .i64 tk, .int .i64 tp, .string (BA tq), .string (BA tt), .string (BA td)] 157)))
 have HT := hI (TB.new w1 #[.int .i64 tk, .int .i64 tp, .string (BA tq), .string (BA tt), .string (BA td)])
 have hlt : w.heap.size < w1.heap.size + 1 := by have := Sy.blk_ltY HX.out.box; simpa using this
 clear hp hb
 go_upto_region 2 with fail
 generalize (w1.alloc (.cells #[.int .i64 tk, .int .i64 tp, .string (BA tq), .string (BA tt), .string (BA td)] 157)) = W1 at HX HT ⊢
 generalize w1.heap.size = g5 at HT hlt ⊢
 have q0 : W1.cell? ⟨g5, 0, none⟩ = some (.int .i64 tk) := by rw [cell_of_row _ _ _ _ _ _ HT.out]; rfl
 have q1 : W1.cell? ⟨g5, 1, none⟩ = some (.int .i64 tp) := by rw [cell_of_row _ _ _ _ _ _ HT.out]; rfl
 have q3 : W1.cell? ⟨g5, 3, none⟩ = some (.string (BA tt)) := by rw [cell_of_row _ _ _ _ _ _ HT.out]; rfl
 have q4 : W1.cell? ⟨g5, 4, none⟩ = some (.string (BA td)) := by rw [cell_of_row _ _ _ _ _ _ HT.out]; rfl
 have HLT := hI hlt
 clear hlt
 go_wp2_with fail
 refine (reportP 2 _ _ g).mono ?_
 rintro e w2 ⟨rfl, hb⟩
 exact ⟨rfl, rfl, HX.out.but.trans hb⟩
theorem objListZ (W0 w : World) (g : Nat) (l : List Sy.Pg) (lv : Value) (cur : ByteArray) (d : Int) (tk tp : Int) (tq tt td : List UInt8) (r : List Tk) (h : Psr W0 w g l lv cur (⟨tk, tp, tq, tt, td⟩ :: r)) (hw : WfT (⟨tk, tp, tq, tt, td⟩ :: r)) (hk0' : tk ≠ 0) (n5 : tk ≠ 5) (n6 : tk ≠ 6) (n7 : tk ≠ 7) (n2 : tk ≠ 2) (n3 : tk ≠ 3) (n4 : tk ≠ 4) (hd : ¬ 200 < d) (hd0 : 0 ≤ d) (o : Ob) (r' : List Tk) (hL : ∀ w, Psr W0 w g l lv cur r → Calls Tryz.prog 163 #[.pointer (some ⟨g, 0, none⟩), .int .i64 (d + 1)] w (OutP W0 w g l lv cur (.ok o r'))) : Calls Tryz.prog 112 #[.pointer (some ⟨g, 0, none⟩), .int .i64 d] w (OutP W0 w g l lv cur (.ok o r')) := by
 have k5 : (tk == 5) = false := by rw [beq_eq_false_iff_ne]; omega
 have k6 : (tk == 6) = false := by rw [beq_eq_false_iff_ne]; omega
 have k7 : (tk == 7) = false := by rw [beq_eq_false_iff_ne]; omega
 have k2 : (tk == 2) = false := by rw [beq_eq_false_iff_ne]; omega
 have k3 : (tk == 3) = false := by rw [beq_eq_false_iff_ne]; omega
 have k4 : (tk == 4) = false := by rw [beq_eq_false_iff_ne]; omega
 have KL := hI hL
 have hk0 : tk ≠ 0 := by omega
 have HX := hI (ObX.new h)
 have KT : Hid (∀ w, Psr W0 w g l lv cur (⟨tk, tp, tq, tt, td⟩ :: r) → Calls Tryz.prog 159 #[.pointer (some ⟨g, 0, none⟩)] w (fun e w' => e = .returned (.agg #[.int .i64 tk, .int .i64 tp, .string (BA tq), .string (BA tt), .string (BA td)]) ∧ Psr W0 w' g l lv cur r ∧ But g w w')) := fun w h => takeOk W0 w g l lv cur ⟨tk, tp, tq, tt, td⟩ r h hk0 (hw.tail hk0).ne
 have HW := hI (hw.tail hk0)
 clear h hw hk0 hk0' n5 n6 n7 n2 n3 n4 hL
 go_enter Tryz.func112, Tryz.ntmps112
 go_wp2_with fail
 refine (KT.out _ HX.out.ps).mono ?_
 rintro e w1 ⟨rfl, hp, hb⟩
 replace HX := hI ((HX.out.next hb hp).keep (Below.alloc (Below.refl w1.heap.size w1) (Nat.le_refl _) (.cells #[.int .i64 tk, .int .i64 tp, .string (BA tq), .string (BA tt), .string (BA td)] 157)))
 have HT := hI (TB.new w1 #[.int .i64 tk, .int .i64 tp, .string (BA tq), .string (BA tt), .string (BA td)])
 have hlt : w.heap.size < w1.heap.size + 1 := by have := Sy.blk_ltY HX.out.box; simpa using this
 clear hp hb
 go_upto_region 2 with fail
 generalize (w1.alloc (.cells #[.int .i64 tk, .int .i64 tp, .string (BA tq), .string (BA tt), .string (BA td)] 157)) = W1 at HX HT ⊢
 generalize w1.heap.size = g5 at HT hlt ⊢
 have q0 : W1.cell? ⟨g5, 0, none⟩ = some (.int .i64 tk) := by rw [cell_of_row _ _ _ _ _ _ HT.out]; rfl
 have q1 : W1.cell? ⟨g5, 1, none⟩ = some (.int .i64 tp) := by rw [cell_of_row _ _ _ _ _ _ HT.out]; rfl
 have q3 : W1.cell? ⟨g5, 3, none⟩ = some (.string (BA tt)) := by rw [cell_of_row _ _ _ _ _ _ HT.out]; rfl
 have q4 : W1.cell? ⟨g5, 4, none⟩ = some (.string (BA td)) := by rw [cell_of_row _ _ _ _ _ _ HT.out]; rfl
 have HLT := hI hlt
 clear hlt
 go_wp2_with fail
 refine (KL.out _ HX.out.ps).mono ?_
 rintro e w2 ⟨p, rfl, hp, hps, hb⟩
 have HX1 : Hid (w.heap.size < W1.heap.size) := Sy.blk_ltY HX.out.box
 replace HX := hI (HX.out.next hb hps)
 clear hb hps q0 q1 q3 q4
 go_wp2_with (refine storeV rfl (.tmp 4) (.tmp 54) rfl w.heap.size o p rfl rfl hp 27 _ HX.out.box rfl ?_)
 exact retO rfl rfl (setRow_heap _ _ _ _ _ _ HX.out.box) (by simp [cellsO_length]) (HX.out.fin hp (fun b hb => ⟨by have := HX1.out; omega, hb.2⟩))
theorem objListBad (W0 w : World) (g : Nat) (l : List Sy.Pg) (lv : Value) (cur : ByteArray) (d : Int) (tk tp : Int) (tq tt td : List UInt8) (r : List Tk) (h : Psr W0 w g l lv cur (⟨tk, tp, tq, tt, td⟩ :: r)) (hw : WfT (⟨tk, tp, tq, tt, td⟩ :: r)) (hk0' : tk ≠ 0) (n5 : tk ≠ 5) (n6 : tk ≠ 6) (n7 : tk ≠ 7) (n2 : tk ≠ 2) (n3 : tk ≠ 3) (n4 : tk ≠ 4) (hd : ¬ 200 < d) (hd0 : 0 ≤ d) (x q : Int) (hL : ∀ w, Psr W0 w g l lv cur r → Calls Tryz.prog 163 #[.pointer (some ⟨g, 0, none⟩), .int .i64 (d + 1)] w (OutP W0 w g l lv cur (.bad x q))) : Calls Tryz.prog 112 #[.pointer (some ⟨g, 0, none⟩), .int .i64 d] w (PanS w g x q) := by
 have k5 : (tk == 5) = false := by rw [beq_eq_false_iff_ne]; omega
 have k6 : (tk == 6) = false := by rw [beq_eq_false_iff_ne]; omega
 have k7 : (tk == 7) = false := by rw [beq_eq_false_iff_ne]; omega
 have k2 : (tk == 2) = false := by rw [beq_eq_false_iff_ne]; omega
 have k3 : (tk == 3) = false := by rw [beq_eq_false_iff_ne]; omega
 have k4 : (tk == 4) = false := by rw [beq_eq_false_iff_ne]; omega
 have KL := hI hL
 have hk0 : tk ≠ 0 := by omega
 have HX := hI (ObX.new h)
 have KT : Hid (∀ w, Psr W0 w g l lv cur (⟨tk, tp, tq, tt, td⟩ :: r) → Calls Tryz.prog 159 #[.pointer (some ⟨g, 0, none⟩)] w (fun e w' => e = .returned (.agg #[.int .i64 tk, .int .i64 tp, .string (BA tq), .string (BA tt), .string (BA td)]) ∧ Psr W0 w' g l lv cur r ∧ But g w w')) := fun w h => takeOk W0 w g l lv cur ⟨tk, tp, tq, tt, td⟩ r h hk0 (hw.tail hk0).ne
 have HW := hI (hw.tail hk0)
 clear h hw hk0 hk0' n5 n6 n7 n2 n3 n4 hL
 go_enter Tryz.func112, Tryz.ntmps112
 go_wp2_with fail
 refine (KT.out _ HX.out.ps).mono ?_
 rintro e w1 ⟨rfl, hp, hb⟩
 replace HX := hI ((HX.out.next hb hp).keep (Below.alloc (Below.refl w1.heap.size w1) (Nat.le_refl _) (.cells #[.int .i64 tk, .int .i64 tp, .string (BA tq), .string (BA tt), .string (BA td)] 157)))
 have HT := hI (TB.new w1 #[.int .i64 tk, .int .i64 tp, .string (BA tq), .string (BA tt), .string (BA td)])
 have hlt : w.heap.size < w1.heap.size + 1 := by have := Sy.blk_ltY HX.out.box; simpa using this
 clear hp hb
 go_upto_region 2 with fail
 generalize (w1.alloc (.cells #[.int .i64 tk, .int .i64 tp, .string (BA tq), .string (BA tt), .string (BA td)] 157)) = W1 at HX HT ⊢
 generalize w1.heap.size = g5 at HT hlt ⊢
 have q0 : W1.cell? ⟨g5, 0, none⟩ = some (.int .i64 tk) := by rw [cell_of_row _ _ _ _ _ _ HT.out]; rfl
 have q1 : W1.cell? ⟨g5, 1, none⟩ = some (.int .i64 tp) := by rw [cell_of_row _ _ _ _ _ _ HT.out]; rfl
 have q3 : W1.cell? ⟨g5, 3, none⟩ = some (.string (BA tt)) := by rw [cell_of_row _ _ _ _ _ _ HT.out]; rfl
 have q4 : W1.cell? ⟨g5, 4, none⟩ = some (.string (BA td)) := by rw [cell_of_row _ _ _ _ _ _ HT.out]; rfl
 have HLT := hI hlt
 clear hlt
 go_wp2_with fail
 refine (KL.out _ HX.out.ps).mono ?_
 rintro e w2 ⟨rfl, hb⟩
 exact ⟨rfl, rfl, HX.out.but.trans hb⟩
def Val7 (o : Ob) (p x0 x1 x2 x3 x4 x5 : Value) : Prop := cellsO o p = [x0, x1, x2, x3, x4, x5, p]
theorem listQ (o : Ob) (p x0 x1 x2 x3 x4 x5 : Value) (hz : Val7 o p x0 x1 x2 x3 x4 x5) (W : World) (b : Nat) (S : Nat → Prop) (hS : In S W) (hb : S b)
 (hr : W.heap[b]? = some (.cells #[.int .i64 2, .string ⟨#[]⟩, .string ⟨#[]⟩, .string ⟨#[108, 105, 115, 112]⟩, .string ⟨#[113, 117, 111, 116, 101]⟩, .string ⟨#[]⟩, .slice none 0 0, x0, x1, x2, x3, x4, x5, p] 27 (0, 0))) (hp : Pair W S o p) :
 Calls Tryz.prog 142 #[.slice (some ⟨b, 0, none⟩) 2 2] W (fun e w' => ∃ b' o' c', e = .returned (.agg #[.int .i64 4, .string ⟨#[]⟩, .string ⟨#[]⟩, .string ⟨#[]⟩, .string ⟨#[]⟩, .string ⟨#[]⟩, .slice (some ⟨b', o', none⟩) 2 c']) ∧ Pair w' (Upto W w' S) (.cons quoteO (.cons o .nil)) (.slice (some ⟨b', o', none⟩) 2 c') ∧ Below W.heap.size W w') := by
 have h := listP [quoteO, o] (some ⟨b, 0, none⟩) 2 W S hS (Nat.le_refl _) (by simp) (fun _ => ⟨b, 0, rfl, hb, by
  refine ⟨⟨.slice none 0 0, rfl, fun j u hj => ?_⟩, ⟨p, hp, fun j u hj => ?_⟩, trivial⟩
  · rw [Nat.zero_add, cell_of_row _ _ _ _ _ _ hr]
    match j, hj with
    | 0, hj => exact hj
    | 1, hj => exact hj
    | 2, hj => exact hj
    | 3, hj => exact hj
    | 4, hj => exact hj
    | 5, hj => exact hj
    | 6, hj => exact hj
    | k + 7, hj => cases hj
  · rw [hz] at hj
    rw [cell_of_row _ _ _ _ _ _ hr]
    match j, hj with
    | 0, hj => exact hj
    | 1, hj => exact hj
    | 2, hj => exact hj
    | 3, hj => exact hj
    | 4, hj => exact hj
    | 5, hj => exact hj
    | 6, hj => exact hj
    | k + 7, hj => cases hj⟩)
 refine h.mono ?_
 rintro e w' ⟨pp, rfl, h1, h2⟩
 obtain ⟨b', o', c', pa, pd, rfl, _⟩ := h1.parts
 exact ⟨b', o', c', rfl, h1, h2⟩
def set7 (W : World) (g : Nat) (x0 x1 x2 x3 x4 x5 x6 : Value) : World :=
 ((((((W.setCell ⟨g, 0, none⟩ x0).setCell ⟨g, 1, none⟩ x1).setCell ⟨g, 2, none⟩ x2).setCell ⟨g, 3, none⟩ x3).setCell ⟨g, 4, none⟩ x4).setCell ⟨g, 5, none⟩ x5).setCell ⟨g, 6, none⟩ x6
theorem set7_other (W : World) (g : Nat) (x0 x1 x2 x3 x4 x5 x6 : Value) (k : Nat) (hk : k ≠ g) : (set7 W g x0 x1 x2 x3 x4 x5 x6).heap[k]? = W.heap[k]? := by
 unfold set7
 iterate 7 rw [Below.heap_setCell _ _ _ k hk]
theorem set7_size (W : World) (g : Nat) (x0 x1 x2 x3 x4 x5 x6 : Value) : (set7 W g x0 x1 x2 x3 x4 x5 x6).heap.size = W.heap.size := by unfold set7; simp [World.setCell]
theorem set7_os (W : World) (g : Nat) (x0 x1 x2 x3 x4 x5 x6 : Value) : (set7 W g x0 x1 x2 x3 x4 x5 x6).os = W.os ∧ (set7 W g x0 x1 x2 x3 x4 x5 x6).tape = W.tape ∧ (set7 W g x0 x1 x2 x3 x4 x5 x6).output = W.output := by unfold set7; simp [World.setCell]
theorem set7_row {W : World} {g : Nat} {y0 y1 y2 y3 y4 y5 y6 : Value} {t : TypeId} (h : W.heap[g]? = some (.cells #[y0, y1, y2, y3, y4, y5, y6] t (0, 0))) (x0 x1 x2 x3 x4 x5 x6 : Value) : (set7 W g x0 x1 x2 x3 x4 x5 x6).heap[g]? = some (.cells #[x0, x1, x2, x3, x4, x5, x6] t (0, 0)) := by
 unfold set7
 simp [World.setCell, Array.getElem?_modify, h]
theorem set7_but {g b : Nat} {w W : World} (h : But g w W) (hb : w.heap.size ≤ b) (x0 x1 x2 x3 x4 x5 x6 : Value) : But g w (set7 W b x0 x1 x2 x3 x4 x5 x6) :=
 ⟨(set7_os _ _ _ _ _ _ _ _ _).1.trans h.os, (set7_os _ _ _ _ _ _ _ _ _).2.1.trans h.tape, (set7_os _ _ _ _ _ _ _ _ _).2.2.trans h.output, by rw [set7_size]; exact h.size, fun k hk hne => (set7_other _ _ _ _ _ _ _ _ _ k (by omega)).trans (h.block k hk hne)⟩
theorem set7_below {B b : Nat} {w W : World} (h : Below B w W) (hb : B ≤ b) (x0 x1 x2 x3 x4 x5 x6 : Value) : Below B w (set7 W b x0 x1 x2 x3 x4 x5 x6) :=
 ⟨(set7_os _ _ _ _ _ _ _ _ _).1.trans h.os, (set7_os _ _ _ _ _ _ _ _ _).2.1.trans h.tape, (set7_os _ _ _ _ _ _ _ _ _).2.2.trans h.output, by rw [set7_size]; exact h.size, fun k hk => (set7_other _ _ _ _ _ _ _ _ _ k (by omega)).trans (h.block k hk)⟩
theorem set7_ps {W0 w : World} {g b : Nat} {l : List Sy.Pg} {lv : Value} {cur : ByteArray} {ts : List Tk} (h : Psr W0 w g l lv cur ts) (hg : g < b) (x0 x1 x2 x3 x4 x5 x6 : Value) : Psr W0 (set7 w b x0 x1 x2 x3 x4 x5 x6) g l lv cur ts := by
 obtain ⟨tv, h1, h2, h3, h4⟩ := h
 exact ⟨tv, (set7_other _ _ _ _ _ _ _ _ _ g (by omega)).trans h1, h2, set7_below h3 (by omega) _ _ _ _ _ _ _, h4⟩
theorem ObX.fin7 {W0 w W : World} {g : Nat} {l : List Sy.Pg} {lv : Value} {cur : ByteArray} {r : List Tk} {o : Ob} {p x0 x1 x2 x3 x4 x5 : Value} {S : Nat → Prop} (h : ObX W0 w W g l lv cur r) (hz : Val7 o p x0 x1 x2 x3 x4 x5) (hp : Pair W S o p) (hS : ∀ b, S b → w.heap.size < b ∧ b < W.heap.size) :
 OutP W0 w g l lv cur (.ok o r) (.returned (.agg #[x0, x1, x2, x3, x4, x5, p])) (set7 W w.heap.size x0 x1 x2 x3 x4 x5 p) := by
 refine ⟨p, ?_, ?_, set7_ps h.ps h.hg _ _ _ _ _ _ _, set7_but h.but (Nat.le_refl _) _ _ _ _ _ _ _⟩
 · unfold vO
   rw [hz]
 · refine Pair.keep (fun b hb => ?_) (fun b hb => set7_other _ _ _ _ _ _ _ _ _ b (by have := hS b hb; omega)) hp
   have := hS b hb
   rw [set7_size]
   omega
theorem ObB.c {W : World} {g : Nat} {a0 a1 a2 a3 a4 a5 a6 : Value} (h : ObB W g #[a0, a1, a2, a3, a4, a5, a6]) :
 W.cell? ⟨g, 0, none⟩ = some a0 ∧ W.cell? ⟨g, 1, none⟩ = some a1 ∧ W.cell? ⟨g, 2, none⟩ = some a2 ∧ W.cell? ⟨g, 3, none⟩ = some a3 ∧ W.cell? ⟨g, 4, none⟩ = some a4 ∧ W.cell? ⟨g, 5, none⟩ = some a5 ∧ W.cell? ⟨g, 6, none⟩ = some a6 := by
 have e := fun j => cell_of_row W g j _ _ _ h
 exact ⟨e 0, e 1, e 2, e 3, e 4, e 5, e 6⟩
theorem ObB.f {W : World} {g : Nat} {c : Array Value} (h : ObB W g c) :
 W.frozen? ⟨g, 0, none⟩ = false ∧ W.frozen? ⟨g, 1, none⟩ = false ∧ W.frozen? ⟨g, 2, none⟩ = false ∧ W.frozen? ⟨g, 3, none⟩ = false ∧ W.frozen? ⟨g, 4, none⟩ = false ∧ W.frozen? ⟨g, 5, none⟩ = false ∧ W.frozen? ⟨g, 6, none⟩ = false := by
 have e : ∀ j, W.frozen? ⟨g, j, none⟩ = false := fun j => by
  unfold ObB at h
  simp [World.frozen?, h]
 exact ⟨e 0, e 1, e 2, e 3, e 4, e 5, e 6⟩
theorem objQuoteBad (W0 w : World) (g : Nat) (l : List Sy.Pg) (lv : Value) (cur : ByteArray) (d : Int) (tk tp : Int) (tq tt td : List UInt8) (r : List Tk) (h : Psr W0 w g l lv cur (⟨tk, tp, tq, tt, td⟩ :: r)) (hw : WfT (⟨tk, tp, tq, tt, td⟩ :: r)) (hk0' : tk ≠ 0) (n5 : tk ≠ 5) (n6 : tk ≠ 6) (n7 : tk ≠ 7) (n2 : tk ≠ 2) (n3 : tk ≠ 3) (n4 : tk = 4) (hd : ¬ 200 < d) (hd0 : 0 ≤ d) (x q : Int) (hO : ∀ w, Psr W0 w g l lv cur r → Calls Tryz.prog 112 #[.pointer (some ⟨g, 0, none⟩), .int .i64 (d + 1)] w (OutP W0 w g l lv cur (.bad x q))) : Calls Tryz.prog 112 #[.pointer (some ⟨g, 0, none⟩), .int .i64 d] w (PanS w g x q) := by
 have k5 : (tk == 5) = false := by rw [beq_eq_false_iff_ne]; omega
 have k6 : (tk == 6) = false := by rw [beq_eq_false_iff_ne]; omega
 have k7 : (tk == 7) = false := by rw [beq_eq_false_iff_ne]; omega
 have k2 : (tk == 2) = false := by rw [beq_eq_false_iff_ne]; omega
 have k3 : (tk == 3) = false := by rw [beq_eq_false_iff_ne]; omega
 have k4 : (tk == 4) = true := by rw [beq_iff_eq]; omega
 have KO := hI hO
 have hk0 : tk ≠ 0 := by omega
 have HX := hI (ObX.new h)
 have KT : Hid (∀ w, Psr W0 w g l lv cur (⟨tk, tp, tq, tt, td⟩ :: r) → Calls Tryz.prog 159 #[.pointer (some ⟨g, 0, none⟩)] w (fun e w' => e = .returned (.agg #[.int .i64 tk, .int .i64 tp, .string (BA tq), .string (BA tt), .string (BA td)]) ∧ Psr W0 w' g l lv cur r ∧ But g w w')) := fun w h => takeOk W0 w g l lv cur ⟨tk, tp, tq, tt, td⟩ r h hk0 (hw.tail hk0).ne
 have HW := hI (hw.tail hk0)
 clear h hw hk0 hk0' n5 n6 n7 n2 n3 n4 hO
 go_enter Tryz.func112, Tryz.ntmps112
 go_wp2_with fail
 refine (KT.out _ HX.out.ps).mono ?_
 rintro e w1 ⟨rfl, hp, hb⟩
 replace HX := hI ((HX.out.next hb hp).keep (Below.alloc (Below.refl w1.heap.size w1) (Nat.le_refl _) (.cells #[.int .i64 tk, .int .i64 tp, .string (BA tq), .string (BA tt), .string (BA td)] 157)))
 have HT := hI (TB.new w1 #[.int .i64 tk, .int .i64 tp, .string (BA tq), .string (BA tt), .string (BA td)])
 have hlt : w.heap.size < w1.heap.size + 1 := by have := Sy.blk_ltY HX.out.box; simpa using this
 clear hp hb
 go_upto_region 2 with fail
 generalize (w1.alloc (.cells #[.int .i64 tk, .int .i64 tp, .string (BA tq), .string (BA tt), .string (BA td)] 157)) = W1 at HX HT ⊢
 generalize w1.heap.size = g5 at HT hlt ⊢
 have q0 : W1.cell? ⟨g5, 0, none⟩ = some (.int .i64 tk) := by rw [cell_of_row _ _ _ _ _ _ HT.out]; rfl
 have q1 : W1.cell? ⟨g5, 1, none⟩ = some (.int .i64 tp) := by rw [cell_of_row _ _ _ _ _ _ HT.out]; rfl
 have q3 : W1.cell? ⟨g5, 3, none⟩ = some (.string (BA tt)) := by rw [cell_of_row _ _ _ _ _ _ HT.out]; rfl
 have q4 : W1.cell? ⟨g5, 4, none⟩ = some (.string (BA td)) := by rw [cell_of_row _ _ _ _ _ _ HT.out]; rfl
 have HLT := hI hlt
 clear hlt
 go_wp2_with fail
 refine (Sy.symbolY ⟨#[108, 105, 115, 112]⟩ ⟨#[113, 117, 111, 116, 101]⟩ _).mono ?_
 rintro e w2 ⟨rfl, hb⟩
 have HX1 : Hid (w.heap.size < W1.heap.size) := Sy.blk_ltY HX.out.box
 replace HX := hI (HX.out.keep hb)
 have HS2 : Hid (w.heap.size < w2.heap.size) := Nat.lt_of_lt_of_le HX1.out hb.size
 clear hb q0 q1 q3 q4
 go_upto_region 16 with fail
 replace HX : Hid (ObX W0 w (w2.alloc (.cells #[.int .i64 2, .string ⟨#[]⟩, .string ⟨#[]⟩, .string ⟨#[108, 105, 115, 112]⟩, .string ⟨#[113, 117, 111, 116, 101]⟩, .string ⟨#[]⟩, .slice none 0 0] 27)) g l lv cur r) := HX.out.keep (Below.alloc (Below.refl _ _) (Nat.le_refl _) _)
 have HQ : Hid (ObB (w2.alloc (.cells #[.int .i64 2, .string ⟨#[]⟩, .string ⟨#[]⟩, .string ⟨#[108, 105, 115, 112]⟩, .string ⟨#[113, 117, 111, 116, 101]⟩, .string ⟨#[]⟩, .slice none 0 0] 27)) w2.heap.size #[.int .i64 2, .string ⟨#[]⟩, .string ⟨#[]⟩, .string ⟨#[108, 105, 115, 112]⟩, .string ⟨#[113, 117, 111, 116, 101]⟩, .string ⟨#[]⟩, .slice none 0 0]) := heap_alloc_new _ _
 generalize w2.alloc (.cells #[.int .i64 2, .string ⟨#[]⟩, .string ⟨#[]⟩, .string ⟨#[108, 105, 115, 112]⟩, .string ⟨#[113, 117, 111, 116, 101]⟩, .string ⟨#[]⟩, .slice none 0 0] 27) = W2 at HX HQ ⊢
 generalize w2.heap.size = g6 at HQ HS2 ⊢
 clear HX1 HT HLT
 have HX0 := hI (HX.out.keep ((Below.refl W2.heap.size W2).drew))
 have HQ0 := hI (HQ.out.keep ((Below.refl W2.heap.size W2).drew))
 obtain ⟨c0, c1, c2, c3, c4, c5, c6⟩ := HQ.out.c
 obtain ⟨d0, d1, d2, d3, d4, d5, d6⟩ := HQ0.out.c
 have n1 : ¬ g6 = w.heap.size := by have := HS2.out; omega
 have n2 : ¬ w.heap.size = g6 := by have := HS2.out; omega
 have hw1 : IntKind.i64.wrap (d + 1) = d + 1 := IntWalk.i64_in _ (by omega)
 go_wp2_with fail
 refine wp_region_any (by kernel_rfl) ?_
 try (change wpAny _ _ _ _ _ _ _ (World.drew _))
 refine wpAny_take (i := 1) (v := ?_) rfl (by kernel_rfl) (by kernel_rfl) (by kernel_rfl) (fun _ _ _ h => h) (Or.inl ⟨by rfl, ?_⟩) ?_
 rotate_left
 · intro w; go_simp; try with_reducible rfl
 refine wpAny_take (i := 2) (v := ?_) rfl (by kernel_rfl) (by kernel_rfl) (by kernel_rfl) (fun _ _ _ h => h) (Or.inl ⟨by rfl, ?_⟩) ?_
 rotate_left
 · intro w; go_simp; try with_reducible rfl
 refine wpAny_take (i := 3) (v := ?_) rfl (by kernel_rfl) (by kernel_rfl) (by kernel_rfl) (fun _ _ _ h => h) (Or.inl ⟨by rfl, ?_⟩) ?_
 rotate_left
 · intro w; go_simp; try with_reducible rfl
 refine wpAny_ready (rs := [0, 4]) (by kernel_rfl) (by simp) ?_
 refine AllReady.cons rfl (fun K hK => ?_) (AllReady.cons rfl (fun K hK => ?_) AllReady.nil)
 · go_simp
   refine hK _ _ ?_
   clear hK K
   refine wpAny_ready (rs := [4]) (by kernel_rfl) (by simp) ?_
   refine AllReady.cons rfl (fun K hK => ?_) AllReady.nil
   go_simp
   refine (KO.out _ ?_).mono ?_
   · first | exact HX0.out.ps | exact HX.out.ps
   · rintro e w3 ⟨rfl, hb⟩
     exact ⟨rfl, rfl, HX0.out.but.trans hb⟩
 · go_simp
   refine (KO.out _ ?_).mono ?_
   · first | exact HX0.out.ps | exact HX.out.ps
   · rintro e w3 ⟨rfl, hb⟩
     exact ⟨rfl, rfl, HX0.out.but.trans hb⟩
theorem objQuote (W0 w : World) (g : Nat) (l : List Sy.Pg) (lv : Value) (cur : ByteArray) (d : Int) (tk tp : Int) (tq tt td : List UInt8) (r : List Tk) (h : Psr W0 w g l lv cur (⟨tk, tp, tq, tt, td⟩ :: r)) (hw : WfT (⟨tk, tp, tq, tt, td⟩ :: r)) (hk0' : tk ≠ 0) (n5 : tk ≠ 5) (n6 : tk ≠ 6) (n7 : tk ≠ 7) (n2 : tk ≠ 2) (n3 : tk ≠ 3) (n4 : tk = 4) (hd : ¬ 200 < d) (hd0 : 0 ≤ d) (o : Ob) (r' : List Tk) (hO : ∀ w, Psr W0 w g l lv cur r → Calls Tryz.prog 112 #[.pointer (some ⟨g, 0, none⟩), .int .i64 (d + 1)] w (OutP W0 w g l lv cur (.ok o r'))) : Calls Tryz.prog 112 #[.pointer (some ⟨g, 0, none⟩), .int .i64 d] w (OutP W0 w g l lv cur (.ok (.cons quoteO (.cons o .nil)) r')) := by
 have k5 : (tk == 5) = false := by rw [beq_eq_false_iff_ne]; omega
 have k6 : (tk == 6) = false := by rw [beq_eq_false_iff_ne]; omega
 have k7 : (tk == 7) = false := by rw [beq_eq_false_iff_ne]; omega
 have k2 : (tk == 2) = false := by rw [beq_eq_false_iff_ne]; omega
 have k3 : (tk == 3) = false := by rw [beq_eq_false_iff_ne]; omega
 have k4 : (tk == 4) = true := by rw [beq_iff_eq]; omega
 have KO := hI hO
 have hk0 : tk ≠ 0 := by omega
 have HX := hI (ObX.new h)
 have KT : Hid (∀ w, Psr W0 w g l lv cur (⟨tk, tp, tq, tt, td⟩ :: r) → Calls Tryz.prog 159 #[.pointer (some ⟨g, 0, none⟩)] w (fun e w' => e = .returned (.agg #[.int .i64 tk, .int .i64 tp, .string (BA tq), .string (BA tt), .string (BA td)]) ∧ Psr W0 w' g l lv cur r ∧ But g w w')) := fun w h => takeOk W0 w g l lv cur ⟨tk, tp, tq, tt, td⟩ r h hk0 (hw.tail hk0).ne
 have HW := hI (hw.tail hk0)
 clear h hw hk0 hk0' n5 n6 n7 n2 n3 n4 hO
 go_enter Tryz.func112, Tryz.ntmps112
 go_wp2_with fail
 refine (KT.out _ HX.out.ps).mono ?_
 rintro e w1 ⟨rfl, hp, hb⟩
 replace HX := hI ((HX.out.next hb hp).keep (Below.alloc (Below.refl w1.heap.size w1) (Nat.le_refl _) (.cells #[.int .i64 tk, .int .i64 tp, .string (BA tq), .string (BA tt), .string (BA td)] 157)))
 have HT := hI (TB.new w1 #[.int .i64 tk, .int .i64 tp, .string (BA tq), .string (BA tt), .string (BA td)])
 have hlt : w.heap.size < w1.heap.size + 1 := by have := Sy.blk_ltY HX.out.box; simpa using this
 clear hp hb
 go_upto_region 2 with fail
 generalize (w1.alloc (.cells #[.int .i64 tk, .int .i64 tp, .string (BA tq), .string (BA tt), .string (BA td)] 157)) = W1 at HX HT ⊢
 generalize w1.heap.size = g5 at HT hlt ⊢
 have q0 : W1.cell? ⟨g5, 0, none⟩ = some (.int .i64 tk) := by rw [cell_of_row _ _ _ _ _ _ HT.out]; rfl
 have q1 : W1.cell? ⟨g5, 1, none⟩ = some (.int .i64 tp) := by rw [cell_of_row _ _ _ _ _ _ HT.out]; rfl
 have q3 : W1.cell? ⟨g5, 3, none⟩ = some (.string (BA tt)) := by rw [cell_of_row _ _ _ _ _ _ HT.out]; rfl
 have q4 : W1.cell? ⟨g5, 4, none⟩ = some (.string (BA td)) := by rw [cell_of_row _ _ _ _ _ _ HT.out]; rfl
 have HLT := hI hlt
 clear hlt
 go_wp2_with fail
 refine (Sy.symbolY ⟨#[108, 105, 115, 112]⟩ ⟨#[113, 117, 111, 116, 101]⟩ _).mono ?_
 rintro e w2 ⟨rfl, hb⟩
 have HX1 : Hid (w.heap.size < W1.heap.size) := Sy.blk_ltY HX.out.box
 replace HX := hI (HX.out.keep hb)
 have HS2 : Hid (w.heap.size < w2.heap.size) := Nat.lt_of_lt_of_le HX1.out hb.size
 clear hb q0 q1 q3 q4
 go_upto_region 16 with fail
 replace HX : Hid (ObX W0 w (w2.alloc (.cells #[.int .i64 2, .string ⟨#[]⟩, .string ⟨#[]⟩, .string ⟨#[108, 105, 115, 112]⟩, .string ⟨#[113, 117, 111, 116, 101]⟩, .string ⟨#[]⟩, .slice none 0 0] 27)) g l lv cur r) := HX.out.keep (Below.alloc (Below.refl _ _) (Nat.le_refl _) _)
 have HQ : Hid (ObB (w2.alloc (.cells #[.int .i64 2, .string ⟨#[]⟩, .string ⟨#[]⟩, .string ⟨#[108, 105, 115, 112]⟩, .string ⟨#[113, 117, 111, 116, 101]⟩, .string ⟨#[]⟩, .slice none 0 0] 27)) w2.heap.size #[.int .i64 2, .string ⟨#[]⟩, .string ⟨#[]⟩, .string ⟨#[108, 105, 115, 112]⟩, .string ⟨#[113, 117, 111, 116, 101]⟩, .string ⟨#[]⟩, .slice none 0 0]) := heap_alloc_new _ _
 generalize w2.alloc (.cells #[.int .i64 2, .string ⟨#[]⟩, .string ⟨#[]⟩, .string ⟨#[108, 105, 115, 112]⟩, .string ⟨#[113, 117, 111, 116, 101]⟩, .string ⟨#[]⟩, .slice none 0 0] 27) = W2 at HX HQ ⊢
 generalize w2.heap.size = g6 at HQ HS2 ⊢
 clear HX1 HT HLT
 have HX0 := hI (HX.out.keep ((Below.refl W2.heap.size W2).drew))
 have HQ0 := hI (HQ.out.keep ((Below.refl W2.heap.size W2).drew))
 obtain ⟨c0, c1, c2, c3, c4, c5, c6⟩ := HQ.out.c
 obtain ⟨d0, d1, d2, d3, d4, d5, d6⟩ := HQ0.out.c
 have n1 : ¬ g6 = w.heap.size := by have := HS2.out; omega
 have n2 : ¬ w.heap.size = g6 := by have := HS2.out; omega
 have hw1 : IntKind.i64.wrap (d + 1) = d + 1 := IntWalk.i64_in _ (by omega)
 go_wp2_with fail
 go_region_held3 (fun W' => W'.cell? ⟨g6, 0, none⟩ = some (.int .i64 2) ∧ W'.cell? ⟨g6, 1, none⟩ = some (.string ⟨#[]⟩) ∧ W'.cell? ⟨g6, 2, none⟩ = some (.string ⟨#[]⟩) ∧ W'.cell? ⟨g6, 3, none⟩ = some (.string ⟨#[108, 105, 115, 112]⟩) ∧ W'.cell? ⟨g6, 4, none⟩ = some (.string ⟨#[113, 117, 111, 116, 101]⟩) ∧ W'.cell? ⟨g6, 5, none⟩ = some (.string ⟨#[]⟩) ∧ W'.cell? ⟨g6, 6, none⟩ = some (.slice none 0 0)) (go_keep) ((first | (go_at_call 112; refine (KO.out _ ?_).mono ?_; (first | exact HX0.out.ps | exact HX.out.ps); rintro e w3 ⟨p, he, hp, hps, hb⟩; obtain ⟨x0, x1, x2, x3, x4, x5, hz⟩ := cells7 o p; have hv : vO o p = .agg #[x0, x1, x2, x3, x4, x5, p] := (by unfold vO; rw [hz]); rw [hv] at he; subst he; have HZ : Hid (Val7 o p x0 x1 x2 x3 x4 x5) := hz; have HP3 : Hid (Pair w3 (fun b => w.heap.size < b ∧ b < w3.heap.size) o p) := hp.more (fun b hb => ⟨Nat.lt_of_lt_of_le (Sy.blk_ltY HX0.out.box) hb.1, hb.2⟩); have HX3 := hI (HX0.out.next hb hps); have HQ3 := hI (HQ0.out.but hb (by have := HS2.out; have := HX0.out.hg; omega)); obtain ⟨b0, b1, b2, b3, b4, b5, b6⟩ := HQ3.out.c; clear hz hv hp hb hps) | (go_at_call 142; refine (listQ o p x0 x1 x2 x3 x4 x5 HZ.out _ w3.heap.size (fun b => w.heap.size < b ∧ b < (w3.alloc (.cells #[.int .i64 2, .string ⟨#[]⟩, .string ⟨#[]⟩, .string ⟨#[108, 105, 115, 112]⟩, .string ⟨#[113, 117, 111, 116, 101]⟩, .string ⟨#[]⟩, .slice none 0 0, x0, x1, x2, x3, x4, x5, p] 27)).heap.size) (fun b hb => hb.2) ⟨Sy.blk_ltY HX3.out.box, by simp⟩ (heap_alloc_new _ _) ?_).mono ?_; exact (HP3.out.keep (fun b hb => ⟨hb.1, by have := hb.2; simp; omega⟩) (fun b hb => (Below.alloc (Below.refl w3.heap.size w3) (Nat.le_refl _) _).block b hb.2)); rintro e w4 ⟨b', o', c', rfl, hp4, hb4⟩; have HX4 := hI ((HX3.out.keep (Below.alloc (Below.refl w3.heap.size w3) (Nat.le_refl _) _)).keep hb4); have HP4 := hI hp4; have HQ4 := hI ((HQ3.out.keep (Below.alloc (Below.refl w3.heap.size w3) (Nat.le_refl _) _)).keep hb4); clear b0 b1 b2 b3 b4 b5 b6; obtain ⟨b0, b1, b2, b3, b4, b5, b6⟩ := HQ4.out.c; obtain ⟨e0, e1, e2, e3, e4, e5, e6⟩ := HX4.out.box.c; obtain ⟨f0, f1, f2, f3, f4, f5, f6⟩ := HX4.out.box.f; have hb5 := hb4.size; clear hp4 hb4)))
 go_wp2_with fail
 refine retO (g := w.heap.size) (t := 27) (fr := (0, 0)) rfl rfl (set7_row HX4.out.box _ _ _ _ _ _ _) rfl (HX4.out.fin7 (o := .cons quoteO (.cons o .nil)) rfl HP4.out (fun b hb => ?_))
 have h1 := Sy.blk_ltY HX3.out.box
 have h2 := Sy.blk_ltY HX4.out.box
 simp at hb5
 rcases hb with hb | hb
 · exact ⟨hb.1, by have := hb.2; simp at this; omega⟩
 · exact ⟨by have := hb.1; simp at this; omega, hb.2⟩
structure ItL (B : Nat) (w : World) (v : Value) (xs : List (Ob × Value)) : Prop where
 own : w.ownsRow B 27 7 v xs.length (flatC xs)
 pairs : ∀ x ∈ xs, Pair w (fun b => B ≤ b ∧ b < w.heap.size ∧ v.ownBlock ≠ some b) x.1 x.2
theorem ItL.start (B : Nat) (w : World) : ItL B w (.slice none 0 0) [] := ⟨⟨rfl, .inl ⟨rfl, rfl⟩⟩, fun x hx => by simp at hx⟩
theorem ItL.move {B : Nat} {w w' : World} {v : Value} {xs : List (Ob × Value)} (h : ItL B w v xs) (hs : w.heap.size ≤ w'.heap.size) (hk : ∀ k, B ≤ k → k < w.heap.size → w'.heap[k]? = w.heap[k]?) : ItL B w' v xs :=
 ⟨own_keep h.own fun g hg => hk g (own_lt h.own g hg).1 (own_lt h.own g hg).2, fun x hx => (h.pairs x hx).keep (fun b hb => ⟨hb.1, by omega, hb.2.2⟩) (fun b hb => hk b hb.1 hb.2.1)⟩
theorem ItL.keep {B : Nat} {w w' : World} {v : Value} {xs : List (Ob × Value)} (h : ItL B w v xs) (hb : Below w.heap.size w w') : ItL B w' v xs := h.move hb.size fun k _ hk => hb.block k hk
theorem ItL.but {B g : Nat} {w w' : World} {v : Value} {xs : List (Ob × Value)} (h : ItL B w v xs) (hb : But g w w') (hg : g < B) : ItL B w' v xs := h.move hb.size fun k h1 hk => hb.block k hk (by omega)
theorem appItem {ops : Array Oper} {rest : List Oper} {oo : Oper} {a : Act} {w : World} {Q : Exit → Act → World → Prop} (hgd : oo.guard = none) (sl x : Operand)
 (ho : oo.op = .call { callee := .builtin .append, args := #[sl, x], argTypes := #[25, 25] }) {B : Nat} {v : Value} {xs : List (Ob × Value)} (hs : a.eval sl = v) (hI : ItL B w v xs) (o : Ob) (p x0 x1 x2 x3 x4 x5 : Value) (hz : Val7 o p x0 x1 x2 x3 x4 x5) (g c : Nat) (hx : a.eval x = .slice (some ⟨g, 0, none⟩) 1 c)
 (hg : w.heap[g]? = some (.cells #[x0, x1, x2, x3, x4, x5, p] 27 (0, 0))) (hp : Pair w (fun b => B ≤ b ∧ b < w.heap.size ∧ v.ownBlock ≠ some b) o p) (hl : xs.length ≤ 100000) (hB : B ≤ w.heap.size)
 (h : ∀ v' w', ItL B w' v' (xs ++ [(o, p)]) → Below B w w' → wpList Tryz.prog ops Q rest (a.put oo.dst v') w') : wpList Tryz.prog ops Q (oo :: rest) a w := by
 obtain ⟨i0, hi, hz0, hz1, hz2⟩ := infoO
 have hone : ∀ u ∈ [x0, x1, x2, x3, x4, x5, p], u.oneCell' = true := by
  have := hp.one
  rw [hz] at this
  intro u hu
  rw [Array.all_eq_true_iff_forall_mem] at this
  exact this u (by simpa using hu)
 refine wpList_append_own_at w hgd sl x 25 ho B 27 i0 _ 7 112 Tryz.underlying25 hi hz0 hz1 hz2 rfl (by omega) v xs.length (flatC xs) hs hI.own ⟨g, 0, none⟩ 1 c [x0, x1, x2, x3, x4, x5, p] hx rfl (cell_row5 hg) hone (by unfold maxLen; omega) (by omega) hB ?_
 intro v' w' h1 h2 _ hat
 have hown := own_lt hI.own
 have hne' : ∀ b, b < w.heap.size → v.ownBlock ≠ some b → v'.ownBlock ≠ some b := fun b hb' hne e => by
  rcases hat with h0 | h0
  · exact hne (h0.symm.trans e)
  · rw [h0] at e
    have : w.heap.size = b := by injection e
    omega
 have hsz := h2.size
 have key : ∀ o p, Pair w (fun b => B ≤ b ∧ b < w.heap.size ∧ v.ownBlock ≠ some b) o p → Pair w' (fun b => B ≤ b ∧ b < w'.heap.size ∧ v'.ownBlock ≠ some b) o p := fun o p hq =>
  hq.keep (fun b hb' => ⟨hb'.1, by omega, hne' b hb'.2.1 hb'.2.2⟩) (fun b hb' => h2.block b hb'.2.1 (fun e => hb'.2.2 e.symm))
 refine h v' w' ⟨?_, fun y hy => ?_⟩ ((Below.refl B w).grown h2 hB (fun k hk => (hown k hk).1))
 · rw [flatC_snoc, List.length_append]
   rw [hz]
   exact h1
 · rcases List.mem_append.1 hy with hy | hy
   · exact key _ _ (hI.pairs y hy)
   · obtain rfl : y = (o, p) := by simpa using hy
     exact key _ _ hp
def tkN (g : Nat) (w : World) : Nat := match w.cell? ⟨g, 2, none⟩ with
 | some (.slice _ n _) => n
 | _ => 0
theorem Psr.tkN {W0 w : World} {g : Nat} {l : List Sy.Pg} {lv : Value} {cur : ByteArray} {ts : List Tk} (h : Psr W0 w g l lv cur ts) : tkN g w = ts.length := by
 obtain ⟨tv, h1, _, _, _, A, c, rfl, _⟩ := h
 unfold Proofs.YtlocnkobancjmaaGreatDoor.tkN
 rw [cell_of_row _ _ _ _ _ _ h1]
 rfl
theorem nilX (w : World) : Calls Tryz.prog 190 #[] w (Sy.RetY w (.agg #[.int .i64 2, .string ⟨#[]⟩, .string ⟨#[]⟩, .string (BA lispB), .string (BA [110, 105, 108]), .string ⟨#[]⟩, .slice none 0 0])) := by
 refine (nilP w (fun _ => False)).mono ?_
 rintro e w' ⟨p, rfl, hp, hb⟩
 obtain rfl := hp.flat rfl
 exact ⟨rfl, hb⟩
structure LiR (W0 w wr : World) (g : Nat) (l : List Sy.Pg) (lv : Value) (cur : ByteArray) (d : Int) (f : Nat) (R : Pr) (N : Nat) (v : Value) (xs : List (Ob × Value)) (ts : List Tk) (f' : Nat) : Prop where
 x : ObX W0 w wr g l lv cur ts
 it : ItL (w.heap.size + 1) wr v xs
 eq : lisF (symL l cur) numK f' d (fsts xs) ts = R
 wf : WfT ts
 ks : TkS ts
 hf : f' ≤ f
 len : xs.length + ts.length ≤ N
theorem fsts_snoc (xs : List (Ob × Value)) (o : Ob) (p : Value) : fsts (xs ++ [(o, p)]) = fsts xs ++ [o] := by unfold fsts; simp
theorem fsts_nil {xs : List (Ob × Value)} : fsts xs = [] ↔ xs = [] := by unfold fsts; simp
theorem TkS.sub {ts r : List Tk} (h : TkS ts) (hs : r.length ≤ ts.length) (hm : ∀ t ∈ r, t ∈ ts) : TkS r := ⟨by have := h.1; omega, fun t ht => h.2 t (hm t ht)⟩
theorem ItL.lenv {B : Nat} {w : World} {v : Value} {xs : List (Ob × Value)} (h : ItL B w v xs) : ∃ A c, v = .slice A xs.length c := by
 rcases h.own.2 with ⟨rfl, hn⟩ | ⟨g, cap, cur, rfl, _⟩
 · exact ⟨none, 0, by rw [hn]⟩
 · exact ⟨_, _, rfl⟩
theorem par_suf (sym : Tk → (List UInt8 × List UInt8) × Int) (num : Tk → Rat) : ∀ (f : Nat), (∀ (d : Int) (ts : List Tk) (o : Ob) (r : List Tk), parF sym num f d ts = .ok o r → r <:+ ts) ∧
 (∀ (d : Int) (acc : List Ob) (ts : List Tk) (o : Ob) (r : List Tk), lisF sym num f d acc ts = .ok o r → r <:+ ts)
 | 0 => ⟨fun d ts o r e => (by unfold parF at e; cases e), fun d acc ts o r e => (by unfold lisF at e; cases e)⟩
 | f + 1 => by
  obtain ⟨ih1, ih2⟩ := par_suf sym num f
  constructor
  · intro d ts o r e
    cases ts with
    | nil => unfold parF at e; cases e
    | cons t ts =>
     have hs : ∀ {x : List Tk}, x <:+ ts → x <:+ t :: ts := fun h => h.trans (List.suffix_cons t ts)
     rw [parF] at e
     split at e
     · cases e
     split at e
     · injection e with _ e; subst e; exact List.suffix_cons t ts
     split at e
     · split at e
       · injection e with _ e; subst e; exact List.suffix_cons t ts
       · cases e
     split at e
     · injection e with _ e; subst e; exact List.suffix_cons t ts
     split at e
     · cases e
     split at e
     · cases e
     split at e
     · cases hp : parF sym num f (d + 1) ts with
       | ok o' r' =>
        rw [hp] at e
        injection e with _ e
        subst e
        exact hs (ih1 _ _ _ _ hp)
       | bad x q => rw [hp] at e; cases e
       | out => rw [hp] at e; cases e
     · exact hs (ih2 _ _ _ _ _ e)
  · intro d acc ts o r e
    cases ts with
    | nil => unfold lisF at e; cases e
    | cons t ts =>
     have hs : ∀ {x : List Tk}, x <:+ ts → x <:+ t :: ts := fun h => h.trans (List.suffix_cons t ts)
     rw [lisF] at e
     split at e
     · injection e with _ e; subst e; exact List.suffix_cons t ts
     split at e
     · cases hp : parF sym num f d ts with
       | ok o' r' =>
        rw [hp] at e
        cases r' with
        | nil => cases e
        | cons u r' =>
         by_cases hu : u.k = 2
         · simp only [if_pos hu] at e
           injection e with _ e
           subst e
           exact hs ((List.suffix_cons u r').trans (ih1 _ _ _ _ hp))
         · simp only [if_neg hu] at e
           split at e <;> cases e
       | bad x q => rw [hp] at e; cases e
       | out => rw [hp] at e; cases e
     · cases hp : parF sym num f d (t :: ts) with
       | ok o' r' =>
        rw [hp] at e
        exact (ih2 _ _ _ _ _ e).trans (ih1 _ _ _ _ hp)
       | bad x q => rw [hp] at e; cases e
       | out => rw [hp] at e; cases e
theorem TkS.suf {ts r : List Tk} (h : TkS ts) (hs : r <:+ ts) : TkS r := h.sub hs.length_le fun t ht => hs.subset ht
theorem ObsAt.keep5 {w w' : World} {S S' : Nat → Prop} (hS : ∀ b, S b → S' b) (hk : ∀ b, S b → w'.heap[b]? = w.heap[b]?) {b : Nat} (hb : w'.heap[b]? = w.heap[b]?) : ∀ {l : List Ob} {o : Nat}, ObsAt w S b o l → ObsAt w' S' b o l
 | [], o, _ => trivial
 | r :: rs, o, h => by
  unfold ObsAt at h ⊢
  obtain ⟨⟨p, h1, h2⟩, h3⟩ := h
  exact ⟨⟨p, h1.keep hS hk, fun j u hj => (World.cell?_of_block (a := ⟨b, o + j, none⟩) hb).trans (h2 j u hj)⟩, ObsAt.keep5 hS hk hb h3⟩
structure Li2 (W0 w wr : World) (g : Nat) (l : List Sy.Pg) (lv : Value) (cur : ByteArray) (r : List Tk) (os : List Ob) (gb g6 : Nat) (last : Ob) (j : Nat) (p x0 x1 x2 x3 x4 x5 : Value) : Prop where
 x : ObX W0 w wr g l lv cur r
 lt6 : w.heap.size < g6
 sz : g6 < wr.heap.size
 gl : gb < wr.heap.size
 ne : gb ≠ g6
 obs : ObsAt wr (fun b => w.heap.size < b ∧ b < wr.heap.size ∧ b ≠ g6) gb 0 os
 hz : Val7 (consL (os.drop j) last) p x0 x1 x2 x3 x4 x5
 box : ObB wr g6 #[x0, x1, x2, x3, x4, x5, p]
 pr : Pair wr (fun b => w.heap.size < b ∧ b < wr.heap.size ∧ b ≠ g6) (consL (os.drop j) last) p
theorem consL_drop {os : List Ob} {j : Nat} (hj : j < os.length) (last : Ob) : consL (os.drop j) last = .cons os[j] (consL (os.drop (j + 1)) last) := by
 rw [List.drop_eq_getElem_cons hj]; rfl
theorem Li2.start {W0 w W : World} {g : Nat} {l : List Sy.Pg} {lv : Value} {cur : ByteArray} {r : List Tk} {v : Value} {xs : List (Ob × Value)} {last : Ob} {p x0 x1 x2 x3 x4 x5 : Value} {g6 : Nat} (hx : ObX W0 w W g l lv cur r) (hi : W.ownsRow (w.heap.size + 1) 27 7 v xs.length (flatC xs)) (hpr : ∀ x ∈ xs, Pair W (fun b => w.heap.size < b ∧ b < W.heap.size ∧ b ≠ g6) x.1 x.2) (hne : v.ownBlock ≠ some g6)
 (h6 : w.heap.size < g6) (hb6 : ObB W g6 #[x0, x1, x2, x3, x4, x5, p]) (hz : Val7 last p x0 x1 x2 x3 x4 x5) (hp : Pair W (fun b => w.heap.size < b ∧ b < W.heap.size ∧ b ≠ g6) last p) (hn : 0 < xs.length) :
 ∃ gb c, v = .slice (some ⟨gb, 0, none⟩) xs.length c ∧ Li2 W0 w W g l lv cur r (fsts xs) gb g6 last xs.length p x0 x1 x2 x3 x4 x5 := by
 have ho := own_lt hi
 rcases hi.2 with ⟨rfl, h0⟩ | ⟨gb, cap, cur', rfl, hb, hh, hn', _, hcs, hcur⟩
 · omega
 · refine ⟨gb, cap, rfl, hx, h6, Sy.blk_ltY hb6, Sy.blk_ltY hh, fun e => hne (by rw [e]; rfl), obsAt_row xs 0 hpr fun j u hj => ?_, ?_, hb6, ?_⟩
   · rw [Nat.zero_add, cell_of_row _ _ _ _ _ _ hh]
     rw [← hcur] at hj
     rw [List.getElem?_take] at hj
     split at hj
     · simpa using hj
     · cases hj
   · rw [List.drop_eq_nil_of_le (by simp [fsts])]; exact hz
   · rw [List.drop_eq_nil_of_le (by simp [fsts])]; exact hp
theorem Li2.fin {W0 w wr : World} {g : Nat} {l : List Sy.Pg} {lv : Value} {cur : ByteArray} {r : List Tk} {o : Ob} {g6 : Nat} {p x0 x1 x2 x3 x4 x5 : Value} (hx : ObX W0 w wr g l lv cur r) (hz : Val7 o p x0 x1 x2 x3 x4 x5) (hp : Pair wr (fun b => w.heap.size < b ∧ b < wr.heap.size ∧ b ≠ g6) o p) :
 OutP W0 w g l lv cur (.ok o r) (.returned (vO o p)) (wr.setRow w.heap.size (cellsO o p).toArray) := hx.fin hp fun b hb => ⟨hb.1, hb.2.1⟩
theorem lis_some {t : Tk} {r : List Tk} {f' : Nat} {sym : Tk → (List UInt8 × List UInt8) × Int} {num : Tk → Rat} {d : Int} {acc : List Ob} {R : Pr} (h : lisF sym num f' d acc (t :: r) = R) (hR : R ≠ .out) : ∃ f2, f' = f2 + 1 := by
 cases f' with
 | zero => unfold lisF at h; exact absurd h.symm hR
 | succ k => exact ⟨k, rfl⟩
theorem fsts_len (xs : List (Ob × Value)) : (fsts xs).length = xs.length := by unfold fsts; simp
section
variable {sym : Tk → (List UInt8 × List UInt8) × Int} {num : Tk → Rat} {f : Nat} {d : Int} {acc : List Ob} {t u : Tk} {r r1 : List Tk} {o : Ob} {x q : Int}
theorem lis_close (hk : t.k = 2) : lisF sym num (f + 1) d acc (t :: r) = .ok (consL acc .nil) r := by rw [lisF, if_pos hk]
theorem lis_ok (hk : t.k ≠ 2) (ha : ¬ (t.k = 3 ∧ acc ≠ [])) (hp : parF sym num f d (t :: r) = .ok o r1) : lisF sym num (f + 1) d acc (t :: r) = lisF sym num f d (acc ++ [o]) r1 := by rw [lisF, if_neg hk, if_neg ha, hp]
theorem lis_bad (hk : t.k ≠ 2) (ha : ¬ (t.k = 3 ∧ acc ≠ [])) (hp : parF sym num f d (t :: r) = .bad x q) : lisF sym num (f + 1) d acc (t :: r) = .bad x q := by rw [lisF, if_neg hk, if_neg ha, hp]
theorem lis_out (hk : t.k ≠ 2) (ha : ¬ (t.k = 3 ∧ acc ≠ [])) (hp : parF sym num f d (t :: r) = .out) : lisF sym num (f + 1) d acc (t :: r) = .out := by rw [lisF, if_neg hk, if_neg ha, hp]
theorem dot_ok (hk : t.k = 3) (ha : acc ≠ []) (hp : parF sym num f d r = .ok o (u :: r1)) : lisF sym num (f + 1) d acc (t :: r) = if u.k = 2 then .ok (consL acc o) r1 else if u.k = 0 then .bad 11 u.p else .bad 12 u.p := by rw [lisF, if_neg (by omega), if_pos ⟨hk, ha⟩, hp]
theorem dot_bad (hk : t.k = 3) (ha : acc ≠ []) (hp : parF sym num f d r = .bad x q) : lisF sym num (f + 1) d acc (t :: r) = .bad x q := by rw [lisF, if_neg (by omega), if_pos ⟨hk, ha⟩, hp]
theorem dot_out (hk : t.k = 3) (ha : acc ≠ []) (hp : parF sym num f d r = .out) : lisF sym num (f + 1) d acc (t :: r) = .out := by rw [lisF, if_neg (by omega), if_pos ⟨hk, ha⟩, hp]
end
structure IA (B : Nat) (W : World) (v : Value) (xs : List (Ob × Value)) (g6 : Nat) : Prop where
 own : W.ownsRow B 27 7 v xs.length (flatC xs)
 pr : ∀ x ∈ xs, Pair W (fun b => B ≤ b ∧ b < W.heap.size ∧ b ≠ g6) x.1 x.2
 ne : v.ownBlock ≠ some g6
theorem ItL.away {B : Nat} {w w' : World} {v : Value} {xs : List (Ob × Value)} {g6 : Nat} (h : ItL B w v xs) (h6 : w.heap.size ≤ g6) (hs : w.heap.size ≤ w'.heap.size) (hk : ∀ k, B ≤ k → k < w.heap.size → w'.heap[k]? = w.heap[k]?) : IA B w' v xs g6 :=
 ⟨own_keep h.own fun g hg => hk g (own_lt h.own g hg).1 (own_lt h.own g hg).2, fun x hx => (h.pairs x hx).keep (fun b hb => ⟨hb.1, by omega, by omega⟩) (fun b hb => hk b hb.1 hb.2.1), fun e => by have := (own_lt h.own g6 e).2; omega⟩
theorem IA.but {B g : Nat} {w w' : World} {v : Value} {xs : List (Ob × Value)} {g6 : Nat} (h : IA B w v xs g6) (hb : But g w w') (hg : g < B) : IA B w' v xs g6 :=
 ⟨own_keep h.own fun k hk => hb.block k (own_lt h.own k hk).2 (by have := (own_lt h.own k hk).1; omega), fun x hx => (h.pr x hx).keep (fun b h => ⟨h.1, by have := hb.size; omega, h.2.2⟩) (fun b h => hb.block b h.2.1 (by have := h.1; omega)), h.ne⟩
theorem IA.row {B : Nat} {w : World} {v : Value} {xs : List (Ob × Value)} {g6 : Nat} (h : IA B w v xs g6) (cs : Array Value) : IA B (w.setRow g6 cs) v xs g6 :=
 ⟨own_keep h.own fun k hk => setRow_other w g6 k cs (fun e => h.ne (by rw [hk, e])), fun x hx => (h.pr x hx).keep (fun b h => ⟨h.1, by rw [setRow_size]; exact h.2.1, h.2.2⟩) (fun b h => setRow_other w g6 b cs h.2.2), h.ne⟩
theorem pair_but {g g6 : Nat} {w w1 w2 : World} {o : Ob} {p : Value} (h : Pair w1 (fun b => w.heap.size < b ∧ b < w1.heap.size ∧ b ≠ g6) o p) (hb : But g w1 w2) (hg : g < w.heap.size) : Pair w2 (fun b => w.heap.size < b ∧ b < w2.heap.size ∧ b ≠ g6) o p :=
 h.keep (fun b h => ⟨h.1, by have := hb.size; omega, h.2.2⟩) (fun b h => hb.block b h.2.1 (by omega))
theorem ObX.row {W0 w W : World} {g b : Nat} {l : List Sy.Pg} {lv : Value} {cur : ByteArray} {r : List Tk} (h : ObX W0 w W g l lv cur r) (hb : w.heap.size < b) (cs : Array Value) : ObX W0 w (W.setRow b cs) g l lv cur r :=
 ⟨h.hg, h.but.row (by omega) cs, (setRow_other _ _ _ _ (by omega)).trans h.box, h.ps.row (by have := h.hg; omega) cs⟩
theorem ObX.below {W0 w W W' : World} {g : Nat} {l : List Sy.Pg} {lv : Value} {cur : ByteArray} {r : List Tk} (h : ObX W0 w W g l lv cur r) (hb : Below (w.heap.size + 1) W W') : ObX W0 w W' g l lv cur r := by
 have hg := h.hg
 refine ⟨h.hg, ⟨hb.os.trans h.but.os, hb.tape.trans h.but.tape, hb.output.trans h.but.output, Nat.le_trans h.but.size hb.size, fun k hk hne => (hb.block k (by omega)).trans (h.but.block k hk hne)⟩, (hb.block w.heap.size (by omega)).trans h.box, ?_⟩
 obtain ⟨tv, h1, h2, h3, h4⟩ := h.ps
 exact ⟨tv, (hb.block g (by omega)).trans h1, h2, h3.trans (hb.mono (by omega)), h4⟩
theorem Li2.stepR {W0 w wr w2 : World} {g : Nat} {l : List Sy.Pg} {lv : Value} {cur : ByteArray} {r : List Tk} {os : List Ob} {gb g6 : Nat} {last : Ob} {j : Nat} {p x0 x1 x2 x3 x4 x5 : Value} (h : Li2 W0 w wr g l lv cur r os gb g6 last (j + 1) p x0 x1 x2 x3 x4 x5) (hj : j < os.length) (hb : Below wr.heap.size wr w2) {pp : Value}
 (hp : Pair w2 (Upto wr w2 (fun b => w.heap.size < b ∧ b < wr.heap.size ∧ b ≠ g6)) (.cons os[j] (consL (os.drop (j + 1)) last)) pp) :
 Li2 W0 w (w2.setRow g6 (cellsO (.cons os[j] (consL (os.drop (j + 1)) last)) pp).toArray) g l lv cur r os gb g6 last j pp (.int .i64 4) (.string ⟨#[]⟩) (.string ⟨#[]⟩) (.string ⟨#[]⟩) (.string ⟨#[]⟩) (.string ⟨#[]⟩) := by
 have hs := hb.size
 have h6 := h.sz
 have hx := h.x.keep hb
 have hgg := h.x.hg
 have hlt := h.lt6
 have hbx := Sy.blk_ltY h.x.box
 refine ⟨hx.row hlt _, hlt, by rw [setRow_size]; omega, by rw [setRow_size]; have := h.gl; omega, h.ne, ?_, ?_, setRow_heap _ _ _ _ _ _ (h.box.keep hb), ?_⟩
 · refine h.obs.keep5 (fun b hb' => ⟨hb'.1, by rw [setRow_size]; omega, hb'.2.2⟩) (fun b hb' => (setRow_other _ _ _ _ hb'.2.2).trans (hb.block b hb'.2.1)) ((setRow_other _ _ _ _ h.ne).trans (hb.block gb h.gl))
 · rw [consL_drop hj]; rfl
 · rw [consL_drop hj]
   refine hp.keep (fun b hb' => ?_) (fun b hb' => setRow_other _ _ _ _ ?_)
   · rw [setRow_size]
     rcases hb' with hb' | hb'
     · exact ⟨hb'.1, by omega, hb'.2.2⟩
     · exact ⟨by omega, hb'.2, by omega⟩
   · rcases hb' with hb' | hb'
     · exact hb'.2.2
     · omega
theorem Li2.start2 {W0 w W : World} {g : Nat} {l : List Sy.Pg} {lv : Value} {cur : ByteArray} {r : List Tk} {A : Option Addr} {n c : Nat} {xs : List (Ob × Value)} {last : Ob} {p x0 x1 x2 x3 x4 x5 : Value} {g6 : Nat} (hx : ObX W0 w W g l lv cur r) (hi : IA (w.heap.size + 1) W (.slice A n c) xs g6)
 (h6 : w.heap.size < g6) (hb6 : ObB W g6 #[x0, x1, x2, x3, x4, x5, p]) (hz : Val7 last p x0 x1 x2 x3 x4 x5) (hp : Pair W (fun b => w.heap.size < b ∧ b < W.heap.size ∧ b ≠ g6) last p) (hn : xs.length = n) :
 ∃ gb, (0 < n → A = some ⟨gb, 0, none⟩) ∧ Li2 W0 w W g l lv cur r (fsts xs) gb g6 last n p x0 x1 x2 x3 x4 x5 := by
 subst hn
 by_cases hn : 0 < xs.length
 · obtain ⟨gb, c2, e, h⟩ := Li2.start hx hi.own hi.pr hi.ne h6 hb6 hz hp hn
   injection e with e1
   exact ⟨gb, fun _ => e1, h⟩
 · have hx0 : xs = [] := List.eq_nil_of_length_eq_zero (by omega)
   subst hx0
   exact ⟨w.heap.size, fun h => absurd h (by simp), ⟨hx, h6, Sy.blk_ltY hb6, Sy.blk_ltY hx.box, by omega, trivial, hz, hb6, hp⟩⟩
theorem listPs (f : Nat) (HO : ∀ f', f' < f → ObC f') : LiC f := by
 intro W0 w g l lv cur d ts h hw hk hpb hd0 hd3 hout
 obtain ⟨R, hR⟩ : ∃ R, lisF (symL l cur) numK f d [] ts = R := ⟨_, rfl⟩
 rw [hR] at hout ⊢
 have H0 : Hid (LiR W0 w (w.alloc (.cells #[.int .i64 0, .string ⟨#[]⟩, .string ⟨#[]⟩, .string ⟨#[]⟩, .string ⟨#[]⟩, .string ⟨#[]⟩, .slice none 0 0] 27)) g l lv cur d f R ts.length (.slice none 0 0) [] ts f) := ⟨ObX.new h, ItL.start _ _, hR, hw, hk, Nat.le_refl _, by simp⟩
 have HRO := hI hout
 have HN := hI hk.1
 have HNLE := HN
 obtain ⟨N, hNN⟩ : ∃ N, ts.length = N := ⟨_, rfl⟩
 rw [hNN] at H0 HN
 have HHO := hI HO
 have HPB := hI hpb
 have HG := hI h.lt
 have HD := hI (And.intro hd0 hd3)
 clear h hw hk hpb hout hR HO hNN hd0 hd3
 go_enter Tryz.func163, Tryz.ntmps163
 go_wp2_with fail
 go_loopw [5] (fun v wr => ∃ (xs : List (Ob × Value)) (t : Tk) (r : List Tk) (f' : Nat) (sl : Value), sl = v ∧ Hid (LiR W0 w wr g l lv cur d f R N sl xs (t :: r) f')) (fun _ wr => tkN g wr)
 case atStart =>
  cases ts with
  | nil => exact absurd rfl H0.out.wf.ne
  | cons t r => exact ⟨[], t, r, f, _, rfl, H0⟩
 case round =>
  clear H0
  obtain ⟨xs, t, r, f', sl, rfl, HE⟩ := hrel
  obtain ⟨wo, rfl⟩ : ∃ wo : World, wo = wr := ⟨_, rfl⟩
  have HM := hI HE.out.x.ps.tkN
  obtain ⟨f2, hf2⟩ := lis_some HE.out.eq HRO.out
  subst hf2
  obtain ⟨tk, tp, tq, tt, td⟩ := t
  obtain ⟨A, cc, hsl⟩ := HE.out.it.lenv
  obtain ⟨n, hn⟩ : ∃ n, xs.length = n := ⟨_, rfl⟩
  rw [hn] at hsl
  subst hsl
  have HNn := hI hn
  have hnl : n ≤ 100000 := by have := HN.out; have := HE.out.len; have := HNLE.out; omega
  have hq := HE.out.eq
  have hlen := HE.out.len
  have KP : Hid (∀ w, Psr W0 w g l lv cur ((⟨tk, tp, tq, tt, td⟩ : Tk) :: r) → Calls Tryz.prog 111 #[.pointer (some ⟨g, 0, none⟩)] w (fun e w' => e = .returned (.int .i64 tk) ∧ w = w')) := fun w h => peekPs W0 w g l lv cur _ r h
  have hfl : ∀ w, (Instr.field 157 (.agg #[.int .i64 tk, .int .i64 tp, .string (BA tq), .string (BA tt), .string (BA td)]) 0).run Tryz.prog w = .ok (.int .i64 tk) w := fun w => by first | rfl | kernel_rfl
  by_cases k2 : tk = 2
  · rw [lis_close k2] at hq
    have HQ := hI hq
    have KT : Hid (∀ w, Psr W0 w g l lv cur ((⟨tk, tp, tq, tt, td⟩ : Tk) :: r) → Calls Tryz.prog 159 #[.pointer (some ⟨g, 0, none⟩)] w (fun e w' => e = .returned (.agg #[.int .i64 tk, .int .i64 tp, .string (BA tq), .string (BA tt), .string (BA td)]) ∧ Psr W0 w' g l lv cur r ∧ But g w w')) := fun w h => takeOk W0 w g l lv cur _ r h (by show tk ≠ 0; omega) (HE.out.wf.tail (by show tk ≠ 0; omega)).ne
    have e2 : (tk != 2) = false := by rw [k2]; rfl
    have e3 : (tk == 3) = false := by rw [k2]; rfl
    clear hq k2 hlen
    go_wp2_with fail
    refine (KP.out _ HE.out.x.ps).mono ?_
    rintro e w1 ⟨rfl, rfl⟩
    go_wp2_with fail
    refine (nilX _).mono ?_
    rintro e w2 ⟨rfl, hb⟩
    have hal : Below w2.heap.size w2 (w2.alloc (.cells #[.int .i64 2, .string ⟨#[]⟩, .string ⟨#[]⟩, .string (BA lispB), .string (BA [110, 105, 108]), .string ⟨#[]⟩, .slice none 0 0] 27)) := Below.alloc (Below.refl _ _) (Nat.le_refl _) _
    have HX := hI ((HE.out.x.keep hb).keep hal)
    have HB6 : Hid (ObB (w2.alloc (.cells #[.int .i64 2, .string ⟨#[]⟩, .string ⟨#[]⟩, .string (BA lispB), .string (BA [110, 105, 108]), .string ⟨#[]⟩, .slice none 0 0] 27)) w2.heap.size #[.int .i64 2, .string ⟨#[]⟩, .string ⟨#[]⟩, .string (BA lispB), .string (BA [110, 105, 108]), .string ⟨#[]⟩, .slice none 0 0]) := heap_alloc_new _ _
    have HIA : Hid (IA (w.heap.size + 1) (w2.alloc (.cells #[.int .i64 2, .string ⟨#[]⟩, .string ⟨#[]⟩, .string (BA lispB), .string (BA [110, 105, 108]), .string ⟨#[]⟩, .slice none 0 0] 27)) (.slice A n cc) xs w2.heap.size) := HE.out.it.away hb.size (by have := hal.size; have := hb.size; omega) (fun k h1 h2 => (hal.block k (by have := hb.size; omega)).trans (hb.block k h2))
    have H6 : Hid (w.heap.size < w2.heap.size) := by have := hb.size; have := Sy.blk_ltY HE.out.x.box; exact (by omega : w.heap.size < w2.heap.size)
    clear hb hal HE
    go_upto_region 5 with fail
    generalize w2.alloc (.cells #[.int .i64 2, .string ⟨#[]⟩, .string ⟨#[]⟩, .string (BA lispB), .string (BA [110, 105, 108]), .string ⟨#[]⟩, .slice none 0 0] 27) = W2 at HX HB6 HIA ⊢
    generalize w2.heap.size = g6 at HB6 HIA H6 ⊢
    go_wp2_with fail
    refine (KT.out _ HX.out.ps).mono ?_
    rintro e w3 ⟨rfl, hps, hb⟩
    replace HX := hI (HX.out.next hb hps)
    replace HB6 := hI (HB6.out.but hb (by have := H6.out; have := HG.out; omega))
    replace HIA := hI (HIA.out.but hb (by have := HG.out; omega))
    clear hb hps
    have HZ : Hid (Val7 Ob.nil (.slice none 0 0) (.int .i64 2) (.string ⟨#[]⟩) (.string ⟨#[]⟩) (.string (BA lispB)) (.string (BA [110, 105, 108])) (.string ⟨#[]⟩)) := rfl
    have HPR : Hid (Pair w3 (fun b => w.heap.size < b ∧ b < w3.heap.size ∧ b ≠ g6) Ob.nil (.slice none 0 0)) := (rfl : (Value.slice none 0 0) = _)
    obtain ⟨gb, hA, H2⟩ := Li2.start2 HX.out HIA.out H6.out HB6.out HZ.out HPR.out HNn.out
    have HA := hI hA
    have H20 := hI H2
    clear hA H2 HX HIA HB6 HZ HPR H6
    go_wp2_with fail
    go_loopw [39] (fun v wr => ∃ (i : Nat) (p' y0 y1 y2 y3 y4 y5 : Value), i ≤ n ∧ v = .int .i64 (i : Int) ∧ Hid (Li2 W0 w wr g l lv cur r (fsts xs) gb g6 Ob.nil (n - i) p' y0 y1 y2 y3 y4 y5)) (fun v _ => n - (intOf v).toNat)
    case atStart => exact ⟨0, _, _, _, _, _, _, _, Nat.zero_le _, rfl, H20⟩
    case round =>
     clear H20
     obtain ⟨i, p', y0, y1, y2, y3, y4, y5, hi, rfl, hE⟩ := hrel
     obtain ⟨wz, rfl⟩ : ∃ wz : World, wz = wr := ⟨_, rfl⟩
     obtain ⟨k, hkL, hk⟩ : ∃ k, n = i + k ∧ k ≤ n := ⟨n - i, by omega, by omega⟩
     have hki := hI (show n - i = k from by omega)
     rw [hki.out] at hE
     obtain ⟨m0, m1, m2, m3, m4, m5, m6⟩ := hE.out.box.c
     have hh := hI hE.out.box
     cases k with
     | succ k =>
      have hkl : k < (fsts xs).length := by rw [fsts_len, HNn.out]; omega
      obtain ⟨pa, hpa, hcell⟩ := hE.out.obs.get hkl
      have hq := hE.out.pr
      have eq : cellsO (consL ((fsts xs).drop (k + 1)) Ob.nil) p' = [y0, y1, y2, y3, y4, y5, p'] := hE.out.hz
      obtain ⟨b, rfl⟩ : ∃ b, A = some ⟨b, 0, none⟩ := ⟨gb, HA.out (by omega)⟩
      obtain rfl : b = gb := by have := HA.out (by omega); injection this with this; injection this
      have hIn : In (fun b => w.heap.size < b ∧ b < wz.heap.size ∧ b ≠ g6) wz := fun b hb => hb.2.1
      have hgl : g6 < wz.heap.size := hE.out.sz
      have call : ∀ wd, Below wz.heap.size wz wd → Calls Tryz.prog 143 #[vO (fsts xs)[k] pa, vO (consL ((fsts xs).drop (k + 1)) Ob.nil) p'] wd (RetO wd (fun b => w.heap.size < b ∧ b < wz.heap.size ∧ b ≠ g6) (.cons (fsts xs)[k] (consL ((fsts xs).drop (k + 1)) Ob.nil))) :=
       fun wd hbd => consP _ _ pa p' wd _ (hIn.later hbd.size) (hpa.below hIn hbd) (hq.below hIn hbd)
      obtain ⟨x0, x1, x2, x3, x4, x5, ea⟩ := cells7 (fsts xs)[k] pa
      rw [ea] at hcell
      have l0 := hcell 0 _ rfl
      have l1 := hcell 1 _ rfl
      have l2 := hcell 2 _ rfl
      have l3 := hcell 3 _ rfl
      have l4 := hcell 4 _ rfl
      have l5 := hcell 5 _ rfl
      have l6 := hcell 6 _ rfl
      rw [Nat.zero_add] at l0
      rw [Nat.zero_add] at l1
      rw [Nat.zero_add] at l2
      rw [Nat.zero_add] at l3
      rw [Nat.zero_add] at l4
      rw [Nat.zero_add] at l5
      rw [Nat.zero_add] at l6
      rw [Nat.add_zero] at l0
      unfold vO at call
      rw [ea, eq] at call
      have CALL := hI call
      have HE := hE
      have HK := hI hkl
      clear call hcell hpa hq ea eq hE
      have hp0 : (0 : Int) ≤ (n : Int) - 1 - (i : Int) := by omega
      have hp1 : (n : Int) - 1 - (i : Int) < n := by omega
      have hp2 : ((n : Int) - 1 - (i : Int)).toNat = k := by omega
      have hp3 : (i : Int) < n := by omega
      have hp6 : (i : Int) ≤ (n : Int) - 1 := by omega
      have hp4 : IntKind.i64.wrap ((n : Int) - 1) = (n : Int) - 1 := IntWalk.i64_in _ (by omega)
      have hp5 : IntKind.i64.wrap ((n : Int) - 1 - (i : Int)) = (n : Int) - 1 - (i : Int) := IntWalk.i64_in _ (by omega)
      have hkL' : i + (k + 1) ≤ n ∧ n ≤ i + (k + 1) := by omega
      clear hkL
      go_wp2_with fail
      go_still_tail 9, (by kernel_rfl)
      change wpList _ _ _ _ _ wz.drew
      have hbd : Below wz.heap.size wz wz.drew := (Below.refl _ _).drew
      generalize wz.drew = wd at hbd ⊢
      clear l0 l1 l2 l3 l4 l5 l6 m0 m1 m2 m3 m4 m5 m6
      go_wp2_with fail
      refine (CALL.out wd hbd).mono ?_
      rintro e w7 ⟨p3, rfl, hp3, hb3⟩
      have hbe := hbd.trans (hb3.mono hbd.size)
      have hh3 := hI ((hbe.block g6 hgl).trans hh.out)
      have h45 := hbd.size
      have HS := hI (HE.out.stepR HK.out hbe (hp3.more fun b hb => hb.imp id fun h => ⟨Nat.le_trans h45 h.1, h.2⟩))
      go_wp2_with (refine storeV (w1 := w7) rfl (.tmp 6) (.tmp 51) rfl g6 _ _ rfl rfl hp3 _ _ hh3.out rfl ?_)
      go_roundw
      case rel => exact ⟨i + 1, _, _, _, _, _, _, _, by omega, by go_num, by rw [show n - (i + 1) = k from by omega]; exact HS⟩
      case measure => simp [intOf]; omega
     | zero =>
      have hn0 : ¬ (i : Int) < n := by omega
      clear hkL
      have ev := hI (show Value.agg #[y0, y1, y2, y3, y4, y5, p'] = vO (consL ((fsts xs).drop 0) Ob.nil) p' from by unfold vO; rw [hE.out.hz])
      have HQP := hI hE.out.pr
      have hh3 := hI hE.out.x.box
      have HF := hI (Li2.fin hE.out.x hE.out.hz hE.out.pr)
      rw [List.drop_zero] at HF
      rw [HQ.out] at HF
      go_wp2_with (refine storeV (w1 := wz) rfl (.tmp 4) (.tmp 53) rfl w.heap.size _ _ rfl ev.out HQP.out _ _ hh3.out rfl ?_)
      exact retO rfl rfl (setRow_heap _ _ _ _ _ _ hh3.out) (by simp [cellsO_length]) HF.out
  · have e2 : (tk != 2) = true := by rw [bne_iff_ne]; exact k2
    by_cases k3 : tk = 3 ∧ xs ≠ []
    · obtain ⟨k3, hxs⟩ := k3
      have hfx : fsts xs ≠ [] := fun e => hxs (fsts_nil.1 e)
      have e3 : (tk != 3) = false := by rw [k3]; rfl
      have e4 : (tk == 3) = true := by rw [k3]; rfl
      have e5 : ((n : Int) == 0) = false := by rw [beq_eq_false_iff_ne]; have := List.length_pos_iff.2 hxs; omega
      have hwr := HE.out.wf.tail (show tk ≠ 0 by omega)
      have KT : Hid (∀ w, Psr W0 w g l lv cur ((⟨tk, tp, tq, tt, td⟩ : Tk) :: r) → Calls Tryz.prog 159 #[.pointer (some ⟨g, 0, none⟩)] w (fun e w' => e = .returned (.agg #[.int .i64 tk, .int .i64 tp, .string (BA tq), .string (BA tt), .string (BA td)]) ∧ Psr W0 w' g l lv cur r ∧ But g w w')) := fun w h => takeOk W0 w g l lv cur _ r h (by show tk ≠ 0; omega) hwr.ne
      have KO0 : Hid (∀ w, Psr W0 w g l lv cur r → parF (symL l cur) numK f2 d r ≠ .out → Calls Tryz.prog 112 #[.pointer (some ⟨g, 0, none⟩), .int .i64 d] w (OutP W0 w g l lv cur (parF (symL l cur) numK f2 d r))) := fun w h ho => HHO.out f2 (by have := HE.out.hf; omega) W0 w g l lv cur d r h hwr (HE.out.ks.suf (List.suffix_cons _ _)) HPB.out HD.out.1 HD.out.2 ho
      have hpk := (par_ok (symL l cur) numK f2).1 d r hwr
      cases hp : parF (symL l cur) numK f2 d r with
      | out => rw [dot_out k3 hfx hp] at hq; exact absurd hq.symm HRO.out
      | bad x q =>
       rw [dot_bad k3 hfx hp] at hq
       have KO : Hid (∀ w, Psr W0 w g l lv cur r → Calls Tryz.prog 112 #[.pointer (some ⟨g, 0, none⟩), .int .i64 d] w (PanS w g x q)) := fun w h => by
        have := KO0.out w h (by rw [hp]; intro e; cases e)
        rw [hp] at this
        exact this
       have HQ := hI hq
       clear hq hp hpk KO0 hwr hfx hxs k3 k2 hlen
       go_wp2_with fail
       refine (KP.out _ HE.out.x.ps).mono ?_
       rintro e w1 ⟨rfl, rfl⟩
       go_wp2_with fail
       refine (KP.out _ HE.out.x.ps).mono ?_
       rintro e w1 ⟨rfl, rfl⟩
       go_wp2_with fail
       refine (nilX _).mono ?_
       rintro e w2 ⟨rfl, hb⟩
       have hal : Below w2.heap.size w2 (w2.alloc (.cells #[.int .i64 2, .string ⟨#[]⟩, .string ⟨#[]⟩, .string (BA lispB), .string (BA [110, 105, 108]), .string ⟨#[]⟩, .slice none 0 0] 27)) := Below.alloc (Below.refl _ _) (Nat.le_refl _) _
       have HX := hI ((HE.out.x.keep hb).keep hal)
       have HB6 : Hid (ObB (w2.alloc (.cells #[.int .i64 2, .string ⟨#[]⟩, .string ⟨#[]⟩, .string (BA lispB), .string (BA [110, 105, 108]), .string ⟨#[]⟩, .slice none 0 0] 27)) w2.heap.size #[.int .i64 2, .string ⟨#[]⟩, .string ⟨#[]⟩, .string (BA lispB), .string (BA [110, 105, 108]), .string ⟨#[]⟩, .slice none 0 0]) := heap_alloc_new _ _
       have HIA : Hid (IA (w.heap.size + 1) (w2.alloc (.cells #[.int .i64 2, .string ⟨#[]⟩, .string ⟨#[]⟩, .string (BA lispB), .string (BA [110, 105, 108]), .string ⟨#[]⟩, .slice none 0 0] 27)) (.slice A n cc) xs w2.heap.size) := HE.out.it.away hb.size (by have := hal.size; have := hb.size; omega) (fun k h1 h2 => (hal.block k (by have := hb.size; omega)).trans (hb.block k h2))
       have H6 : Hid (w.heap.size < w2.heap.size) := by have := hb.size; have := Sy.blk_ltY HE.out.x.box; exact (by omega : w.heap.size < w2.heap.size)
       clear hb hal HE
       go_upto_region 5 with fail
       generalize w2.alloc (.cells #[.int .i64 2, .string ⟨#[]⟩, .string ⟨#[]⟩, .string (BA lispB), .string (BA [110, 105, 108]), .string ⟨#[]⟩, .slice none 0 0] 27) = W2 at HX HB6 HIA ⊢
       generalize w2.heap.size = g6 at HB6 HIA H6 ⊢
       go_wp2_with fail
       refine (KT.out _ HX.out.ps).mono ?_
       rintro e w3 ⟨rfl, hps, hb⟩
       replace HX := hI (HX.out.next hb hps)
       replace HB6 := hI (HB6.out.but hb (by have := H6.out; have := HG.out; omega))
       replace HIA := hI (HIA.out.but hb (by have := HG.out; omega))
       clear hb hps
       go_wp2_with fail
       refine (KO.out _ HX.out.ps).mono ?_
       rintro e w5 ⟨rfl, hb⟩
       have hZ : OutP W0 w g l lv cur R (.panicked [{ v := errV x q, recovered := false }]) w5 := by
        rw [← HQ.out]
        exact ⟨rfl, HX.out.but.trans hb⟩
       exact ⟨rfl, hZ⟩
      | ok o r1 =>
       rw [hp] at hpk
       have KO : Hid (∀ w, Psr W0 w g l lv cur r → Calls Tryz.prog 112 #[.pointer (some ⟨g, 0, none⟩), .int .i64 d] w (OutP W0 w g l lv cur (.ok o r1))) := fun w h => by
        have := KO0.out w h (by rw [hp]; intro e; cases e)
        rw [hp] at this
        exact this
       have hw1 := hpk.1
       cases r1 with
       | nil => exact absurd rfl hw1.ne
       | cons u r2 =>
        rw [dot_ok k3 hfx hp] at hq
        obtain ⟨uk, up, uq, ut, ud⟩ := u
        by_cases u2 : uk = 2
        · rw [if_pos u2] at hq
          have KC := hI (fun w h => closeOk W0 w g l lv cur _ r2 h hw1 u2)
          have HQ := hI hq
          clear hq hp hpk KO0 hwr hfx hxs k3 k2 u2 hlen hw1
          go_wp2_with fail
          refine (KP.out _ HE.out.x.ps).mono ?_
          rintro e w1 ⟨rfl, rfl⟩
          go_wp2_with fail
          refine (KP.out _ HE.out.x.ps).mono ?_
          rintro e w1 ⟨rfl, rfl⟩
          go_wp2_with fail
          refine (nilX _).mono ?_
          rintro e w2 ⟨rfl, hb⟩
          have hal : Below w2.heap.size w2 (w2.alloc (.cells #[.int .i64 2, .string ⟨#[]⟩, .string ⟨#[]⟩, .string (BA lispB), .string (BA [110, 105, 108]), .string ⟨#[]⟩, .slice none 0 0] 27)) := Below.alloc (Below.refl _ _) (Nat.le_refl _) _
          have HX := hI ((HE.out.x.keep hb).keep hal)
          have HB6 : Hid (ObB (w2.alloc (.cells #[.int .i64 2, .string ⟨#[]⟩, .string ⟨#[]⟩, .string (BA lispB), .string (BA [110, 105, 108]), .string ⟨#[]⟩, .slice none 0 0] 27)) w2.heap.size #[.int .i64 2, .string ⟨#[]⟩, .string ⟨#[]⟩, .string (BA lispB), .string (BA [110, 105, 108]), .string ⟨#[]⟩, .slice none 0 0]) := heap_alloc_new _ _
          have HIA : Hid (IA (w.heap.size + 1) (w2.alloc (.cells #[.int .i64 2, .string ⟨#[]⟩, .string ⟨#[]⟩, .string (BA lispB), .string (BA [110, 105, 108]), .string ⟨#[]⟩, .slice none 0 0] 27)) (.slice A n cc) xs w2.heap.size) := HE.out.it.away hb.size (by have := hal.size; have := hb.size; omega) (fun k h1 h2 => (hal.block k (by have := hb.size; omega)).trans (hb.block k h2))
          have H6 : Hid (w.heap.size < w2.heap.size) := by have := hb.size; have := Sy.blk_ltY HE.out.x.box; exact (by omega : w.heap.size < w2.heap.size)
          clear hb hal HE
          go_upto_region 5 with fail
          generalize w2.alloc (.cells #[.int .i64 2, .string ⟨#[]⟩, .string ⟨#[]⟩, .string (BA lispB), .string (BA [110, 105, 108]), .string ⟨#[]⟩, .slice none 0 0] 27) = W2 at HX HB6 HIA ⊢
          generalize w2.heap.size = g6 at HB6 HIA H6 ⊢
          go_wp2_with fail
          refine (KT.out _ HX.out.ps).mono ?_
          rintro e w3 ⟨rfl, hps, hb⟩
          replace HX := hI (HX.out.next hb hps)
          replace HB6 := hI (HB6.out.but hb (by have := H6.out; have := HG.out; omega))
          replace HIA := hI (HIA.out.but hb (by have := HG.out; omega))
          clear hb hps
          go_wp2_with fail
          refine (KO.out _ HX.out.ps).mono ?_
          rintro e w5 ⟨p, rfl, hp, hps, hb⟩
          have h36 := Sy.blk_ltY HB6.out
          replace HX := hI (HX.out.next hb hps)
          replace HB6 := hI (HB6.out.but hb (by have := H6.out; have := HG.out; omega))
          replace HIA := hI (HIA.out.but hb (by have := HG.out; omega))
          go_upto_region 7 with (refine storeV rfl (.tmp 6) (.tmp 34) rfl g6 o p rfl rfl hp 27 _ HB6.out rfl ?_)
          replace HX := hI (HX.out.row H6.out (cellsO o p).toArray)
          replace HIA := hI (HIA.out.row (cellsO o p).toArray)
          obtain ⟨x0, x1, x2, x3, x4, x5, hz⟩ := cells7 o p
          have HZ : Hid (Val7 o p x0 x1 x2 x3 x4 x5) := hz
          replace HB6 : Hid (ObB (w5.setRow g6 (cellsO o p).toArray) g6 #[x0, x1, x2, x3, x4, x5, p]) := (setRow_heap _ _ _ _ _ _ HB6.out).trans (by rw [hz])
          have HPR : Hid (Pair (w5.setRow g6 (cellsO o p).toArray) (fun b => w.heap.size < b ∧ b < (w5.setRow g6 (cellsO o p).toArray).heap.size ∧ b ≠ g6) o p) := hp.keep (fun b hb' => ⟨by have := H6.out; omega, by rw [setRow_size]; exact hb'.2, by omega⟩) (fun b hb' => setRow_other _ _ _ _ (by omega))
          clear hz hp hps hb h36
          generalize (w5.setRow g6 (cellsO o p).toArray) = W5 at HX HIA HB6 HPR ⊢
          go_wp2_with fail
          refine (KC.out _ HX.out.ps).mono ?_
          rintro e w6 ⟨rfl, hps, hb⟩
          replace HX := hI (HX.out.next hb hps)
          replace HB6 := hI (HB6.out.but hb (by have := H6.out; have := HG.out; omega))
          replace HPR := hI (pair_but HPR.out hb HG.out)
          replace HIA := hI (HIA.out.but hb (by have := HG.out; omega))
          clear hb hps
          obtain ⟨gb, hA, H2⟩ := Li2.start2 HX.out HIA.out H6.out HB6.out HZ.out HPR.out HNn.out
          have HA := hI hA
          have H20 := hI H2
          clear hA H2 HX HIA HB6 HZ HPR H6
          go_wp2_with fail
          go_loopw [39] (fun v wr => ∃ (i : Nat) (p' y0 y1 y2 y3 y4 y5 : Value), i ≤ n ∧ v = .int .i64 (i : Int) ∧ Hid (Li2 W0 w wr g l lv cur r2 (fsts xs) gb g6 o (n - i) p' y0 y1 y2 y3 y4 y5)) (fun v _ => n - (intOf v).toNat)
          case atStart => exact ⟨0, _, _, _, _, _, _, _, Nat.zero_le _, rfl, H20⟩
          case round =>
           clear H20
           obtain ⟨i, p', y0, y1, y2, y3, y4, y5, hi, rfl, hE⟩ := hrel
           obtain ⟨wz, rfl⟩ : ∃ wz : World, wz = wr := ⟨_, rfl⟩
           obtain ⟨k, hkL, hk⟩ : ∃ k, n = i + k ∧ k ≤ n := ⟨n - i, by omega, by omega⟩
           have hki := hI (show n - i = k from by omega)
           rw [hki.out] at hE
           obtain ⟨m0, m1, m2, m3, m4, m5, m6⟩ := hE.out.box.c
           have hh := hI hE.out.box
           cases k with
           | succ k =>
            have hkl : k < (fsts xs).length := by rw [fsts_len, HNn.out]; omega
            obtain ⟨pa, hpa, hcell⟩ := hE.out.obs.get hkl
            have hq := hE.out.pr
            have eq : cellsO (consL ((fsts xs).drop (k + 1)) o) p' = [y0, y1, y2, y3, y4, y5, p'] := hE.out.hz
            obtain ⟨b, rfl⟩ : ∃ b, A = some ⟨b, 0, none⟩ := ⟨gb, HA.out (by omega)⟩
            obtain rfl : b = gb := by have := HA.out (by omega); injection this with this; injection this
            have hIn : In (fun b => w.heap.size < b ∧ b < wz.heap.size ∧ b ≠ g6) wz := fun b hb => hb.2.1
            have hgl : g6 < wz.heap.size := hE.out.sz
            have call : ∀ wd, Below wz.heap.size wz wd → Calls Tryz.prog 143 #[vO (fsts xs)[k] pa, vO (consL ((fsts xs).drop (k + 1)) o) p'] wd (RetO wd (fun b => w.heap.size < b ∧ b < wz.heap.size ∧ b ≠ g6) (.cons (fsts xs)[k] (consL ((fsts xs).drop (k + 1)) o))) :=
             fun wd hbd => consP _ _ pa p' wd _ (hIn.later hbd.size) (hpa.below hIn hbd) (hq.below hIn hbd)
            obtain ⟨x0, x1, x2, x3, x4, x5, ea⟩ := cells7 (fsts xs)[k] pa
            rw [ea] at hcell
            have l0 := hcell 0 _ rfl
            have l1 := hcell 1 _ rfl
            have l2 := hcell 2 _ rfl
            have l3 := hcell 3 _ rfl
            have l4 := hcell 4 _ rfl
            have l5 := hcell 5 _ rfl
            have l6 := hcell 6 _ rfl
            rw [Nat.zero_add] at l0
            rw [Nat.zero_add] at l1
            rw [Nat.zero_add] at l2
            rw [Nat.zero_add] at l3
            rw [Nat.zero_add] at l4
            rw [Nat.zero_add] at l5
            rw [Nat.zero_add] at l6
            rw [Nat.add_zero] at l0
            unfold vO at call
            rw [ea, eq] at call
            have CALL := hI call
            have HE := hE
            have HK := hI hkl
            clear call hcell hpa hq ea eq hE
            have hp0 : (0 : Int) ≤ (n : Int) - 1 - (i : Int) := by omega
            have hp1 : (n : Int) - 1 - (i : Int) < n := by omega
            have hp2 : ((n : Int) - 1 - (i : Int)).toNat = k := by omega
            have hp3 : (i : Int) < n := by omega
            have hp6 : (i : Int) ≤ (n : Int) - 1 := by omega
            have hp4 : IntKind.i64.wrap ((n : Int) - 1) = (n : Int) - 1 := IntWalk.i64_in _ (by omega)
            have hp5 : IntKind.i64.wrap ((n : Int) - 1 - (i : Int)) = (n : Int) - 1 - (i : Int) := IntWalk.i64_in _ (by omega)
            have hkL' : i + (k + 1) ≤ n ∧ n ≤ i + (k + 1) := by omega
            clear hkL
            go_wp2_with fail
            go_still_tail 9, (by kernel_rfl)
            change wpList _ _ _ _ _ wz.drew
            have hbd : Below wz.heap.size wz wz.drew := (Below.refl _ _).drew
            generalize wz.drew = wd at hbd ⊢
            clear l0 l1 l2 l3 l4 l5 l6 m0 m1 m2 m3 m4 m5 m6
            go_wp2_with fail
            refine (CALL.out wd hbd).mono ?_
            rintro e w7 ⟨p3, rfl, hp3, hb3⟩
            have hbe := hbd.trans (hb3.mono hbd.size)
            have hh3 := hI ((hbe.block g6 hgl).trans hh.out)
            have h45 := hbd.size
            have HS := hI (HE.out.stepR HK.out hbe (hp3.more fun b hb => hb.imp id fun h => ⟨Nat.le_trans h45 h.1, h.2⟩))
            go_wp2_with (refine storeV (w1 := w7) rfl (.tmp 6) (.tmp 51) rfl g6 _ _ rfl rfl hp3 _ _ hh3.out rfl ?_)
            go_roundw
            case rel => exact ⟨i + 1, _, _, _, _, _, _, _, by omega, by go_num, by rw [show n - (i + 1) = k from by omega]; exact HS⟩
            case measure => simp [intOf]; omega
           | zero =>
            have hn0 : ¬ (i : Int) < n := by omega
            clear hkL
            have ev := hI (show Value.agg #[y0, y1, y2, y3, y4, y5, p'] = vO (consL ((fsts xs).drop 0) o) p' from by unfold vO; rw [hE.out.hz])
            have HQP := hI hE.out.pr
            have hh3 := hI hE.out.x.box
            have HF := hI (Li2.fin hE.out.x hE.out.hz hE.out.pr)
            rw [List.drop_zero] at HF
            rw [HQ.out] at HF
            go_wp2_with (refine storeV (w1 := wz) rfl (.tmp 4) (.tmp 53) rfl w.heap.size _ _ rfl ev.out HQP.out _ _ hh3.out rfl ?_)
            exact retO rfl rfl (setRow_heap _ _ _ _ _ _ hh3.out) (by simp [cellsO_length]) HF.out
        · rw [if_neg u2] at hq
          by_cases u0 : uk = 0
          · rw [if_pos u0] at hq
            have KC := hI (fun w h => closeEnd W0 w g l lv cur _ r2 h hw1 u0)
            have HQ := hI hq
            clear hq hp hpk KO0 hwr hfx hxs k3 k2 u2 u0 hlen hw1
            go_wp2_with fail
            refine (KP.out _ HE.out.x.ps).mono ?_
            rintro e w1 ⟨rfl, rfl⟩
            go_wp2_with fail
            refine (KP.out _ HE.out.x.ps).mono ?_
            rintro e w1 ⟨rfl, rfl⟩
            go_wp2_with fail
            refine (nilX _).mono ?_
            rintro e w2 ⟨rfl, hb⟩
            have hal : Below w2.heap.size w2 (w2.alloc (.cells #[.int .i64 2, .string ⟨#[]⟩, .string ⟨#[]⟩, .string (BA lispB), .string (BA [110, 105, 108]), .string ⟨#[]⟩, .slice none 0 0] 27)) := Below.alloc (Below.refl _ _) (Nat.le_refl _) _
            have HX := hI ((HE.out.x.keep hb).keep hal)
            have HB6 : Hid (ObB (w2.alloc (.cells #[.int .i64 2, .string ⟨#[]⟩, .string ⟨#[]⟩, .string (BA lispB), .string (BA [110, 105, 108]), .string ⟨#[]⟩, .slice none 0 0] 27)) w2.heap.size #[.int .i64 2, .string ⟨#[]⟩, .string ⟨#[]⟩, .string (BA lispB), .string (BA [110, 105, 108]), .string ⟨#[]⟩, .slice none 0 0]) := heap_alloc_new _ _
            have HIA : Hid (IA (w.heap.size + 1) (w2.alloc (.cells #[.int .i64 2, .string ⟨#[]⟩, .string ⟨#[]⟩, .string (BA lispB), .string (BA [110, 105, 108]), .string ⟨#[]⟩, .slice none 0 0] 27)) (.slice A n cc) xs w2.heap.size) := HE.out.it.away hb.size (by have := hal.size; have := hb.size; omega) (fun k h1 h2 => (hal.block k (by have := hb.size; omega)).trans (hb.block k h2))
            have H6 : Hid (w.heap.size < w2.heap.size) := by have := hb.size; have := Sy.blk_ltY HE.out.x.box; exact (by omega : w.heap.size < w2.heap.size)
            clear hb hal HE
            go_upto_region 5 with fail
            generalize w2.alloc (.cells #[.int .i64 2, .string ⟨#[]⟩, .string ⟨#[]⟩, .string (BA lispB), .string (BA [110, 105, 108]), .string ⟨#[]⟩, .slice none 0 0] 27) = W2 at HX HB6 HIA ⊢
            generalize w2.heap.size = g6 at HB6 HIA H6 ⊢
            go_wp2_with fail
            refine (KT.out _ HX.out.ps).mono ?_
            rintro e w3 ⟨rfl, hps, hb⟩
            replace HX := hI (HX.out.next hb hps)
            replace HB6 := hI (HB6.out.but hb (by have := H6.out; have := HG.out; omega))
            replace HIA := hI (HIA.out.but hb (by have := HG.out; omega))
            clear hb hps
            go_wp2_with fail
            refine (KO.out _ HX.out.ps).mono ?_
            rintro e w5 ⟨p, rfl, hp, hps, hb⟩
            have h36 := Sy.blk_ltY HB6.out
            replace HX := hI (HX.out.next hb hps)
            replace HB6 := hI (HB6.out.but hb (by have := H6.out; have := HG.out; omega))
            replace HIA := hI (HIA.out.but hb (by have := HG.out; omega))
            go_upto_region 7 with (refine storeV rfl (.tmp 6) (.tmp 34) rfl g6 o p rfl rfl hp 27 _ HB6.out rfl ?_)
            replace HX := hI (HX.out.row H6.out (cellsO o p).toArray)
            replace HIA := hI (HIA.out.row (cellsO o p).toArray)
            obtain ⟨x0, x1, x2, x3, x4, x5, hz⟩ := cells7 o p
            have HZ : Hid (Val7 o p x0 x1 x2 x3 x4 x5) := hz
            replace HB6 : Hid (ObB (w5.setRow g6 (cellsO o p).toArray) g6 #[x0, x1, x2, x3, x4, x5, p]) := (setRow_heap _ _ _ _ _ _ HB6.out).trans (by rw [hz])
            have HPR : Hid (Pair (w5.setRow g6 (cellsO o p).toArray) (fun b => w.heap.size < b ∧ b < (w5.setRow g6 (cellsO o p).toArray).heap.size ∧ b ≠ g6) o p) := hp.keep (fun b hb' => ⟨by have := H6.out; omega, by rw [setRow_size]; exact hb'.2, by omega⟩) (fun b hb' => setRow_other _ _ _ _ (by omega))
            clear hz hp hps hb h36
            generalize (w5.setRow g6 (cellsO o p).toArray) = W5 at HX HIA HB6 HPR ⊢
            go_wp2_with fail
            refine (KC.out _ HX.out.ps).mono ?_
            rintro e w6 ⟨rfl, hb⟩
            have hZ : OutP W0 w g l lv cur R (.panicked [{ v := errV 11 up, recovered := false }]) w6 := by
             rw [← HQ.out]
             exact ⟨rfl, HX.out.but.trans hb⟩
            exact ⟨rfl, hZ⟩
          · rw [if_neg u0] at hq
            have KC := hI (fun w h => closeBad W0 w g l lv cur _ r2 h hw1 u0 u2)
            have HQ := hI hq
            clear hq hp hpk KO0 hwr hfx hxs k3 k2 u2 u0 hlen hw1
            go_wp2_with fail
            refine (KP.out _ HE.out.x.ps).mono ?_
            rintro e w1 ⟨rfl, rfl⟩
            go_wp2_with fail
            refine (KP.out _ HE.out.x.ps).mono ?_
            rintro e w1 ⟨rfl, rfl⟩
            go_wp2_with fail
            refine (nilX _).mono ?_
            rintro e w2 ⟨rfl, hb⟩
            have hal : Below w2.heap.size w2 (w2.alloc (.cells #[.int .i64 2, .string ⟨#[]⟩, .string ⟨#[]⟩, .string (BA lispB), .string (BA [110, 105, 108]), .string ⟨#[]⟩, .slice none 0 0] 27)) := Below.alloc (Below.refl _ _) (Nat.le_refl _) _
            have HX := hI ((HE.out.x.keep hb).keep hal)
            have HB6 : Hid (ObB (w2.alloc (.cells #[.int .i64 2, .string ⟨#[]⟩, .string ⟨#[]⟩, .string (BA lispB), .string (BA [110, 105, 108]), .string ⟨#[]⟩, .slice none 0 0] 27)) w2.heap.size #[.int .i64 2, .string ⟨#[]⟩, .string ⟨#[]⟩, .string (BA lispB), .string (BA [110, 105, 108]), .string ⟨#[]⟩, .slice none 0 0]) := heap_alloc_new _ _
            have HIA : Hid (IA (w.heap.size + 1) (w2.alloc (.cells #[.int .i64 2, .string ⟨#[]⟩, .string ⟨#[]⟩, .string (BA lispB), .string (BA [110, 105, 108]), .string ⟨#[]⟩, .slice none 0 0] 27)) (.slice A n cc) xs w2.heap.size) := HE.out.it.away hb.size (by have := hal.size; have := hb.size; omega) (fun k h1 h2 => (hal.block k (by have := hb.size; omega)).trans (hb.block k h2))
            have H6 : Hid (w.heap.size < w2.heap.size) := by have := hb.size; have := Sy.blk_ltY HE.out.x.box; exact (by omega : w.heap.size < w2.heap.size)
            clear hb hal HE
            go_upto_region 5 with fail
            generalize w2.alloc (.cells #[.int .i64 2, .string ⟨#[]⟩, .string ⟨#[]⟩, .string (BA lispB), .string (BA [110, 105, 108]), .string ⟨#[]⟩, .slice none 0 0] 27) = W2 at HX HB6 HIA ⊢
            generalize w2.heap.size = g6 at HB6 HIA H6 ⊢
            go_wp2_with fail
            refine (KT.out _ HX.out.ps).mono ?_
            rintro e w3 ⟨rfl, hps, hb⟩
            replace HX := hI (HX.out.next hb hps)
            replace HB6 := hI (HB6.out.but hb (by have := H6.out; have := HG.out; omega))
            replace HIA := hI (HIA.out.but hb (by have := HG.out; omega))
            clear hb hps
            go_wp2_with fail
            refine (KO.out _ HX.out.ps).mono ?_
            rintro e w5 ⟨p, rfl, hp, hps, hb⟩
            have h36 := Sy.blk_ltY HB6.out
            replace HX := hI (HX.out.next hb hps)
            replace HB6 := hI (HB6.out.but hb (by have := H6.out; have := HG.out; omega))
            replace HIA := hI (HIA.out.but hb (by have := HG.out; omega))
            go_upto_region 7 with (refine storeV rfl (.tmp 6) (.tmp 34) rfl g6 o p rfl rfl hp 27 _ HB6.out rfl ?_)
            replace HX := hI (HX.out.row H6.out (cellsO o p).toArray)
            replace HIA := hI (HIA.out.row (cellsO o p).toArray)
            obtain ⟨x0, x1, x2, x3, x4, x5, hz⟩ := cells7 o p
            have HZ : Hid (Val7 o p x0 x1 x2 x3 x4 x5) := hz
            replace HB6 : Hid (ObB (w5.setRow g6 (cellsO o p).toArray) g6 #[x0, x1, x2, x3, x4, x5, p]) := (setRow_heap _ _ _ _ _ _ HB6.out).trans (by rw [hz])
            have HPR : Hid (Pair (w5.setRow g6 (cellsO o p).toArray) (fun b => w.heap.size < b ∧ b < (w5.setRow g6 (cellsO o p).toArray).heap.size ∧ b ≠ g6) o p) := hp.keep (fun b hb' => ⟨by have := H6.out; omega, by rw [setRow_size]; exact hb'.2, by omega⟩) (fun b hb' => setRow_other _ _ _ _ (by omega))
            clear hz hp hps hb h36
            generalize (w5.setRow g6 (cellsO o p).toArray) = W5 at HX HIA HB6 HPR ⊢
            go_wp2_with fail
            refine (KC.out _ HX.out.ps).mono ?_
            rintro e w6 ⟨rfl, hb⟩
            have hZ : OutP W0 w g l lv cur R (.panicked [{ v := errV 12 up, recovered := false }]) w6 := by
             rw [← HQ.out]
             exact ⟨rfl, HX.out.but.trans hb⟩
            exact ⟨rfl, hZ⟩
    · have hnk : ¬ (tk = 3 ∧ fsts xs ≠ []) := fun h => k3 ⟨h.1, fun e => h.2 (fsts_nil.2 e)⟩
      have ec : (tk != 3) = true ∨ ((tk != 3) = false ∧ ((n : Int) == 0) = true) := by
       by_cases h : tk = 3
       · right
         have hx : xs = [] := Classical.byContradiction fun e => k3 ⟨h, e⟩
         rw [hx] at hn
         rw [h, ← hn]
         exact ⟨rfl, rfl⟩
       · left; rw [bne_iff_ne]; exact h
      have KO0 : Hid (∀ w, Psr W0 w g l lv cur ((⟨tk, tp, tq, tt, td⟩ : Tk) :: r) → parF (symL l cur) numK f2 d ((⟨tk, tp, tq, tt, td⟩ : Tk) :: r) ≠ .out → Calls Tryz.prog 112 #[.pointer (some ⟨g, 0, none⟩), .int .i64 d] w (OutP W0 w g l lv cur (parF (symL l cur) numK f2 d ((⟨tk, tp, tq, tt, td⟩ : Tk) :: r)))) := fun w h ho => HHO.out f2 (by have := HE.out.hf; omega) W0 w g l lv cur d _ h HE.out.wf HE.out.ks HPB.out HD.out.1 HD.out.2 ho
      have hpk := (par_ok (symL l cur) numK f2).1 d _ HE.out.wf
      cases hp : parF (symL l cur) numK f2 d ((⟨tk, tp, tq, tt, td⟩ : Tk) :: r) with
      | out => rw [lis_out k2 hnk hp] at hq; exact absurd hq.symm HRO.out
      | bad x q =>
       rw [lis_bad k2 hnk hp] at hq
       have KO : Hid (∀ w, Psr W0 w g l lv cur ((⟨tk, tp, tq, tt, td⟩ : Tk) :: r) → Calls Tryz.prog 112 #[.pointer (some ⟨g, 0, none⟩), .int .i64 d] w (PanS w g x q)) := fun w h => by
        have := KO0.out w h (by rw [hp]; intro e; cases e)
        rw [hp] at this
        exact this
       have HQ := hI hq
       clear hq hp hpk KO0 k3 k2 hnk hlen
       rcases ec with e3 | ⟨e3, e5⟩
       all_goals
        go_wp2_with fail
        refine (KP.out _ HE.out.x.ps).mono ?_
        rintro e w1 ⟨rfl, rfl⟩
        go_wp2_with fail
        refine (KP.out _ HE.out.x.ps).mono ?_
        rintro e w1 ⟨rfl, rfl⟩
        go_wp2_with fail
        refine (KO.out _ HE.out.x.ps).mono ?_
        rintro e w5 ⟨rfl, hb⟩
        have hZ : OutP W0 w g l lv cur R (.panicked [{ v := errV x q, recovered := false }]) w5 := by
         rw [← HQ.out]
         exact ⟨rfl, HE.out.x.but.trans hb⟩
        exact ⟨rfl, hZ⟩
      | ok o r1 =>
       rw [lis_ok k2 hnk hp] at hq
       rw [hp] at hpk
       have hsf := (par_suf (symL l cur) numK f2).1 d _ o r1 hp
       have KO : Hid (∀ w, Psr W0 w g l lv cur ((⟨tk, tp, tq, tt, td⟩ : Tk) :: r) → Calls Tryz.prog 112 #[.pointer (some ⟨g, 0, none⟩), .int .i64 d] w (OutP W0 w g l lv cur (.ok o r1))) := fun w h => by
        have := KO0.out w h (by rw [hp]; intro e; cases e)
        rw [hp] at this
        exact this
       have HQ := hI hq
       have HPK := hI (And.intro hpk.1 (And.intro hpk.2.1 (HE.out.ks.suf hsf)))
       have HLN := hI hlen
       have hxl : xs.length ≤ 100000 := by rw [hn]; exact hnl
       clear hq hp hpk KO0 k3 k2 hnk hsf hlen
       rcases ec with e3 | ⟨e3, e5⟩
       all_goals
        go_wp2_with fail
        refine (KP.out _ HE.out.x.ps).mono ?_
        rintro e w1 ⟨rfl, rfl⟩
        go_wp2_with fail
        refine (KP.out _ HE.out.x.ps).mono ?_
        rintro e w1 ⟨rfl, rfl⟩
        go_wp2_with fail
        refine (KO.out _ HE.out.x.ps).mono ?_
        rintro e w5 ⟨p, he, hp, hps, hb⟩
        obtain ⟨x0, x1, x2, x3, x4, x5, hz⟩ := cells7 o p
        have hv : vO o p = .agg #[x0, x1, x2, x3, x4, x5, p] := by unfold vO; rw [hz]
        rw [hv] at he
        subst he
        have HZ : Hid (Val7 o p x0 x1 x2 x3 x4 x5) := hz
        have HX5 := hI (HE.out.x.next hb hps)
        have HI5 := hI (HE.out.it.but hb (by have := HG.out; omega))
        have HP5 := hI (show Pair w5 (fun b => w.heap.size + 1 ≤ b ∧ b < w5.heap.size ∧ (Value.slice A n cc).ownBlock ≠ some b) o p from hp.more fun b hb' => ⟨by have := Sy.blk_ltY HE.out.x.box; omega, hb'.2, fun e => by have := (own_lt HE.out.it.own b e).2; omega⟩)
        have hal := hI (show Below w5.heap.size w5 (w5.alloc (.cells #[x0, x1, x2, x3, x4, x5, p] 27)) from Below.alloc (Below.refl _ _) (Nat.le_refl _) _)
        have hnw := hI (heap_alloc_new w5 (.cells #[x0, x1, x2, x3, x4, x5, p] 27))
        have HX6 := hI (HX5.out.keep hal.out)
        have HI6 := hI (HI5.out.keep hal.out)
        have HP6 := hI (HP5.out.keep (S' := fun b => w.heap.size + 1 ≤ b ∧ b < (w5.alloc (.cells #[x0, x1, x2, x3, x4, x5, p] 27)).heap.size ∧ (Value.slice A n cc).ownBlock ≠ some b) (fun b hb' => ⟨hb'.1, by have := hal.out.size; omega, hb'.2.2⟩) (fun b hb' => hal.out.block b hb'.2.1))
        have hsz := hI (show w.heap.size + 1 ≤ (w5.alloc (.cells #[x0, x1, x2, x3, x4, x5, p] 27)).heap.size from Sy.blk_ltY HX6.out.box)
        clear hp hps hb hz hv
        go_wp2_with (at_builtin; refine appItem rfl (.tmp 21) (.tmp 25) rfl rfl HI6.out o p x0 x1 x2 x3 x4 x5 HZ.out w5.heap.size 1 rfl hnw.out HP6.out hxl hsz.out ?_)
        intro v7 w7 hi7 hb7
        have HT7 : Hid (LiR W0 w w7 g l lv cur d f R N v7 (xs ++ [(o, p)]) r1 f2) := ⟨HX6.out.below hb7, hi7, by rw [fsts_snoc]; exact HQ.out, HPK.out.1, HPK.out.2.2, by have := HE.out.hf; omega, by have := HLN.out; have := HPK.out.2.1; simp only [List.length_append, List.length_cons, List.length_nil] at *; omega⟩
        have hms : tkN g w7 < tkN g wo := by rw [HM.out, HT7.out.x.ps.tkN]; have := HPK.out.2.1; simp only [List.length_cons] at *; omega
        have HW7 := hI HPK.out.1
        clear hi7 hb7
        go_wp2_with fail
        go_roundw
        case rel =>
         cases r1 with
         | nil => exact absurd rfl HW7.out.ne
         | cons t2 r2 => exact ⟨_, t2, r2, f2, _, rfl, HT7⟩
        case measure => exact hms
theorem parF_tk (sym : Tk → (List UInt8 × List UInt8) × Int) (num : Tk → Rat) (f : Nat) (d tk tp : Int) (tq tt td : List UInt8) (r : List Tk) : parF sym num (f + 1) d (⟨tk, tp, tq, tt, td⟩ :: r) =
 if tk = 0 then .bad 11 tp else if tk = 5 then .ok (.num (num ⟨tk, tp, tq, tt, td⟩)) r else
 if tk = 6 then (if (sym ⟨tk, tp, tq, tt, td⟩).2 = 0 then .ok (.sym (sym ⟨tk, tp, tq, tt, td⟩).1.1 (sym ⟨tk, tp, tq, tt, td⟩).1.2) r else .bad (sym ⟨tk, tp, tq, tt, td⟩).2 tp) else
 if tk = 7 then .ok (.str tt) r else if tk = 2 ∨ tk = 3 then .bad 12 tp else
 if 200 < d then .bad 2 tp else
 if tk = 4 then (match parF sym num f (d + 1) r with
  | .ok o r => .ok (.cons quoteO (.cons o .nil)) r
  | x => x) else lisF sym num f (d + 1) [] r := by rw [parF]; rfl
theorem obStep (f : Nat) (HO : ObC f) (HL : LiC f) : ObC (f + 1) := by
 intro W0 w g l lv cur d ts h hw hk hpb hd0 hd3 hout
 cases ts with
 | nil => exact absurd rfl hw.ne
 | cons t r =>
  have hs := hk.2 t List.mem_cons_self
  have hks : TkS r := hk.suf (List.suffix_cons _ _)
  have he := objEnd f W0 w g l lv cur d t r h
  obtain ⟨tk, tp, tq, tt, td⟩ := t
  rw [parF_tk] at hout ⊢
  by_cases k0 : tk = 0
  · rw [if_pos k0]; exact he k0
  rw [if_neg k0] at hout ⊢
  by_cases k5 : tk = 5
  · rw [if_pos k5]; exact objNum W0 w g l lv cur d tk tp tq tt td r h hw k5 (hs k5)
  rw [if_neg k5] at hout ⊢
  by_cases k6 : tk = 6
  · rw [if_pos k6]
    rcases hm : symL l cur ⟨tk, tp, tq, tt, td⟩ with ⟨⟨m1, m2⟩, x⟩
    by_cases hx : x = 0
    · rw [if_pos hx]
      subst hx
      exact objSymZ W0 w g l lv cur d tk tp tq tt td r h hw k6 hpb m1 m2 hm
    · rw [if_neg hx]
      exact objSymBad W0 w g l lv cur d tk tp tq tt td r h hw k6 hpb _ x hx hm
  rw [if_neg k6] at hout ⊢
  by_cases k7 : tk = 7
  · rw [if_pos k7]; exact objStr W0 w g l lv cur d tk tp tq tt td r h hw k7
  rw [if_neg k7] at hout ⊢
  by_cases k2 : tk = 2
  · rw [if_pos (Or.inl k2)]; exact objClose W0 w g l lv cur d tk tp tq tt td r h hw k2
  by_cases k3 : tk = 3
  · rw [if_pos (Or.inr k3)]; exact objDot W0 w g l lv cur d tk tp tq tt td r h hw k3
  have k23 : ¬ (tk = 2 ∨ tk = 3) := fun h => h.elim k2 k3
  rw [if_neg k23] at hout ⊢
  by_cases hd : 200 < d
  · rw [if_pos hd]; exact objDeep W0 w g l lv cur d tk tp tq tt td r h hw k0 k5 k6 k7 k2 k3 hd
  rw [if_neg hd] at hout ⊢
  have hw' : WfT r := hw.tail k0
  by_cases k4 : tk = 4
  · rw [if_pos k4] at hout ⊢
    have hO : ∀ w, Psr W0 w g l lv cur r → parF (symL l cur) numK f (d + 1) r ≠ .out → _ := fun w h ho => HO W0 w g l lv cur (d + 1) r h hw' hks hpb (by omega) (by omega) ho
    cases hp : parF (symL l cur) numK f (d + 1) r with
    | out => rw [hp] at hout; exact absurd rfl hout
    | ok o r' =>
     rw [hp] at hO
     exact objQuote W0 w g l lv cur d tk tp tq tt td r h hw k0 k5 k6 k7 k2 k3 k4 hd hd0 o r' fun w h => hO w h (by intro e; cases e)
    | bad x q =>
     rw [hp] at hO
     exact objQuoteBad W0 w g l lv cur d tk tp tq tt td r h hw k0 k5 k6 k7 k2 k3 k4 hd hd0 x q fun w h => hO w h (by intro e; cases e)
  · rw [if_neg k4] at hout ⊢
    have hL : ∀ w, Psr W0 w g l lv cur r → lisF (symL l cur) numK f (d + 1) [] r ≠ .out → _ := fun w h ho => HL W0 w g l lv cur (d + 1) r h hw' hks hpb (by omega) (by omega) ho
    cases hp : lisF (symL l cur) numK f (d + 1) [] r with
    | out => rw [hp] at hout; exact absurd rfl hout
    | ok o r' =>
     rw [hp] at hL
     exact objListZ W0 w g l lv cur d tk tp tq tt td r h hw k0 k5 k6 k7 k2 k3 k4 hd hd0 o r' fun w h => hL w h (by intro e; cases e)
    | bad x q =>
     rw [hp] at hL
     exact objListBad W0 w g l lv cur d tk tp tq tt td r h hw k0 k5 k6 k7 k2 k3 k4 hd hd0 x q fun w h => hL w h (by intro e; cases e)
theorem obAll (f : Nat) : ObC f := by
 induction f using Nat.strongRecOn with
 | _ f ih =>
  cases f with
  | zero => intro W0 w g l lv cur d ts h hw hk hpb hd0 hd3 hout; exact absurd (by rw [parF]) hout
  | succ k => exact obStep k (ih k (by omega)) (listPs k fun f' hf => ih f' (by omega))
end Go.Proofs.YtlocnkobancjmaaGreatDoor
