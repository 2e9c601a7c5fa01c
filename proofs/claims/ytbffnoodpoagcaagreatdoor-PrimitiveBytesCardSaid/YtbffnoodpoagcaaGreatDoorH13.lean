import Derived.Test.YtbffnoodpoagcaaGreatDoorAl
import Derived.Test.YtbffnoodpoagcaaGreatDoorH12
import Derived.Test.YtbffnoodpoagcaaGreatDoorSh1
import Derived.Test.YtbffnoodpoagcaaGreatDoorH11
import Derived.Lib.LaidTab
import Derived.WalkSmall
import Derived.StillTailTactics
import Derived.IntWalk
import Derived.LaidEqlPtr
import Derived.Deep.MidRow
import Derived.Laws.MakeOwn
import Derived.Deep.QuietTactic
import Derived.BigQuiet
import Derived.Deep.RegionHeld3
import Derived.Deep.RegionWith
import Derived.Deep.DeepCutAuto
namespace Go.Proofs.YtbffnoodpoagcaaGreatDoor
open Go Go.RowKit
set_option linter.unusedVariables false
def Tab (w : World) : Prop := Lib.TabIs Tryz.prog w "internal/strconv.uint64pow10" .u64 Lib.pow10Tab
theorem tab_global : Tryz.prog.globalNamed "internal/strconv.uint64pow10" = some 0 := by kernel_rfl
theorem Tab.pos {w : World} (h : Tab w) : 0 < w.heap.size := by
 have h1 := World.var?_cell tab_global h 0
 have h2 : w.cell? ⟨0, 0, none⟩ = some (.int .u64 1) := by rw [h1]; rfl
 exact World.block_lt_of_cell? w _ h2
theorem Tab.below {w w' : World} (h : Tab w) (hb : Below w.heap.size w w') : Tab w' := var?_below hb tab_global h.pos h
theorem below_grow /- 40 -/ (w : World) (k : Nat) (os : Array Obj) : Below w.heap.size w (Go.Sort.grow (w.drewN k) os) := by
 refine ⟨rfl, rfl, rfl, by simp [Go.Sort.grow], fun b hb => ?_⟩
 simp only [Go.Sort.grow, World.heap_drewN]
 rw [Array.getElem?_append_left hb]
theorem itoa_any (n : Int) (w : World) (h : Hid (I64 n)) (ht : Tab w) : Calls Tryz.prog 40 #[.int .i64 n] w (RetS w n) :=
 (Tryz.strconv_Itoa n h.out.1 h.out.2 w ht).mono fun e w' ⟨h1, k, os, h2⟩ => by
   subst h2
   refine ⟨h1.trans ?_, below_grow w k os⟩
   rw [itoa_eq]
   rfl
theorem text_of_int {n : Int} (h : Hid (I64 n)) : (BA (text n)).size ≤ 100 := by
 rw [BA_size]
 have h1 := text_length (x := n) (k := 20) (by have := h.out; unfold I64 at this; omega)
 omega

set_option maxHeartbeats 400000 in
set_option maxRecDepth 100000 in
theorem fromIntR (n : Int) (w : World) (h : Hid (I64 n)) (ht : Tab w) :
 Calls Tryz.prog 21 #[.int .i64 n] w (RetS w n) := by
 replace ht := qh9 ht
 go_enter Tryz.func21, Tryz.ntmps21
 go_wp2_with fail
 refine (itoa_any n w h ht.out).mono ?_
 rintro e w1 ⟨rfl, hb1⟩
 go_wp2
 go_ret
 exact ⟨rfl, hb1⟩

set_option maxHeartbeats 400000 in
set_option maxRecDepth 100000 in
theorem intO (n : Int) (w : World) (S : Nat → Prop) (hS : In S w) (h : Hid (I64 n)) (ht : Tab w) :
 Calls Tryz.prog 10 #[.int .i64 n] w (RetO w S (.num (n : Rat))) := by
 replace ht := qh9 ht
 have hq : quo (LA (BA (text n))) (LA ⟨#[49]⟩) = (n : Rat) := by
  rw [show (⟨#[49]⟩ : ByteArray) = BA (text 1) from by decide, quo_text, q_int]
 have HQ := qh9 hq
 clear hq
 go_enter Tryz.func10, Tryz.ntmps10
 go_wp2_with fail
 have hb0 : Below w.heap.size w (w.alloc (Obj.cells #[Value.int IntKind.i64 0, Value.string { data := #[] }, Value.string { data := #[] }, Value.string { data := #[] }, Value.string { data := #[] }, Value.string { data := #[] }, Value.slice none 0 0] 27)) := Below.alloc (Below.refl _ _) (Nat.le_refl _) _
 have hg0 := heap_alloc_new w (Obj.cells #[Value.int IntKind.i64 0, Value.string { data := #[] }, Value.string { data := #[] }, Value.string { data := #[] }, Value.string { data := #[] }, Value.string { data := #[] }, Value.slice none 0 0] 27)
 refine (fromIntR n _ h (ht.out.below hb0)).mono ?_
 rintro e w1 ⟨rfl, hb1⟩
 have h12 := hb1.size
 simp only [World.size_alloc] at h12
 have hg1 := (hb1.block w.heap.size (by simp)).trans hg0
 clear hg0
 have hbw := hb0.trans (hb1.mono hb0.size)
 replace hg1 := qh9 hg1
 go_wp2_with fail
 refine (ratO _ ⟨#[49]⟩ w1 (fun _ => False) (fun _ h => h.elim) (by have := text_of_int h; omega) (by decide)).mono ?_
 rintro e w2 ⟨p, rfl, hp, hb2⟩
 rw [HQ.out] at hp ⊢
 have h23 := hb2.size
 have hg2 := qh9 ((hb2.block w.heap.size (by omega)).trans hg1.out)
 go_wp2_with (refine storeV (w1 := w2) rfl (.tmp 2) (.tmp 5) rfl w.heap.size _ _ rfl rfl hp _ _ hg2.out rfl ?_)
 exact retV rfl rfl hg2.out hp (fun h => by
  rcases h with h | ⟨h, _⟩
  · exact h
  · omega) (fun b hb => by
  rcases hb with hb | ⟨h1, h2⟩
  · exact hb.elim
  · exact .inr ⟨by omega, h2⟩) (Nat.le_refl _) (hbw.trans (hb2.mono hbw.size))
def ObsAt (w : World) (S : Nat → Prop) (b o : Nat) : List Ob → Prop
 | [] => True
 | r :: rs => (∃ p, Pair w S r p ∧ ∀ j u, (cellsO r p)[j]? = some u → w.cell? ⟨b, o + j, none⟩ = some u) ∧ ObsAt w S b (o + 7) rs
theorem textP (s : ByteArray) (w : World) (S : Nat → Prop) : Calls Tryz.prog 142 #[.string s] w (RetO w S (.str (LA s))) := by
 obtain ⟨s, rfl⟩ : ∃ l, s = BA l := ⟨LA s, (BA_LA s).symm⟩
 go_enter Tryz.func142, Tryz.ntmps142
 go_wp2_with fail
 refine retO rfl rfl (heap_alloc_new w _) rfl ⟨.slice none 0 0, ?_, rfl, ?_⟩
 · rfl
 · exact Below.alloc (Below.refl _ _) (Nat.le_refl _) _
theorem symP (p n : ByteArray) (w : World) (S : Nat → Prop) : Calls Tryz.prog 144 #[.agg #[.string p, .string n]] w (RetO w S (.sym (LA p) (LA n))) := by
 obtain ⟨p, rfl⟩ : ∃ l, p = BA l := ⟨LA p, (BA_LA p).symm⟩
 obtain ⟨n, rfl⟩ : ∃ l, n = BA l := ⟨LA n, (BA_LA n).symm⟩
 go_enter Tryz.func144, Tryz.ntmps144
 go_wp2_with fail
 refine retO rfl rfl (heap_alloc2_new w _ _) rfl ⟨.slice none 0 0, ?_, rfl, ?_⟩
 · rfl
 · exact Below.alloc (Below.alloc (Below.refl _ _) (Nat.le_refl _) _) (by simp) _
theorem consRawP (a0 a1 a2 a3 a4 a5 a6 b0 b1 b2 b3 b4 b5 b6 : Value) (w : World) :
 Calls Tryz.prog 127 #[.agg #[a0, a1, a2, a3, a4, a5, a6], .agg #[b0, b1, b2, b3, b4, b5, b6]] w fun e w' =>
  ∃ g, e = .returned (.agg #[.int .i64 4, e0, e0, e0, e0, e0, .slice (some ⟨g, 0, none⟩) 2 2]) ∧ w.heap.size ≤ g ∧ g < w'.heap.size ∧
   w'.heap[g]? = some (.cells #[a0, a1, a2, a3, a4, a5, a6, b0, b1, b2, b3, b4, b5, b6] 27 (0, 0)) ∧ Below w.heap.size w w' := by
 go_enter Tryz.func127, Tryz.ntmps127
 go_wp2_with fail
 refine retO rfl rfl (g := w.heap.size + 1 + 1) (t := 27) (fr := (0, 0)) ?_ rfl ⟨w.heap.size + 1 + 1 + 1, rfl, by omega, ?_, ?_, ?_⟩
 · rw [Below.heap_alloc _ _ _ (by simp)]
   exact heap_new_at (by simp)
 · simp
 · exact heap_new_at (by simp)
 · exact Below.alloc (Below.alloc (Below.alloc (Below.alloc (Below.refl _ _) (Nat.le_refl _) _) (by simp) _) (by simp; omega) _) (by simp; omega) _
theorem consP (a d : Ob) (pa pd : Value) (w : World) (S : Nat → Prop) (hS : In S w) (ha : Pair w S a pa) (hd : Pair w S d pd) :
 Calls Tryz.prog 127 #[vO a pa, vO d pd] w (RetO w S (.cons a d)) := by
 obtain ⟨a0, a1, a2, a3, a4, a5, ea⟩ := cells7 a pa
 obtain ⟨b0, b1, b2, b3, b4, b5, eb⟩ := cells7 d pd
 unfold vO
 rw [ea, eb]
 refine (consRawP a0 a1 a2 a3 a4 a5 pa b0 b1 b2 b3 b4 b5 pd w).mono ?_
 rintro e w' ⟨g, rfl, hg0, hg, hh, hb⟩
 refine ⟨.slice (some ⟨g, 0, none⟩) 2 2, rfl, ⟨g, 0, 2, pa, pd, rfl, Nat.le_refl _, ⟨.inr ⟨hg0, hg⟩, _, _, hh⟩, ?_, (ha.below hS hb).more fun _ h => .inl h, (hd.below hS hb).more fun _ h => .inl h⟩, hb⟩
 intro j u hj
 rw [ea, eb] at hj
 rw [Nat.zero_add, cell_of_row w' g j _ _ _ hh, ← hj]
 simp
theorem ratP (s t : ByteArray) (w : World) (S : Nat → Prop) (hS : In S w) (hs : s.size ≤ 400000000) (ht : t.size ≤ 400000000) :
 Calls Tryz.prog 165 #[.string s, .string t] w (RetO w S (.num (quo (LA s) (LA t)))) := by
 go_enter Tryz.func165, Tryz.ntmps165
 go_wp2_with fail
 refine (reduce_q s t _ hs ht).mono ?_
 rintro e w1 ⟨rfl, hb1⟩
 have hg := qh9 ((hb1.block w.heap.size (by simp)).trans (heap_alloc_new w _))
 go_wp2_with (refine storeV (w1 := w1) (S := fun _ => False) rfl (.tmp 4) (.tmp 13) rfl w.heap.size (.num (quo (LA s) (LA t))) (.slice none 0 0) rfl rfl rfl _ _ hg.out rfl ?_)
 exact retV (S' := fun _ => False) rfl rfl hg.out rfl (fun h => h) (fun _ h => h.elim) (Nat.le_refl _) ((Below.alloc (Below.refl _ _) (Nat.le_refl _) _).trans (hb1.mono (by simp)))
theorem nilP (w : World) (S : Nat → Prop) : Calls Tryz.prog 129 #[] w (RetO w S .nil) := by
 go_enter Tryz.func129, Tryz.ntmps129
 go_wp2_with fail
 refine (symP _ _ _ (fun _ => False)).mono ?_
 rintro e w2 ⟨p, rfl, hp, hb2⟩
 have h12 := hb2.size
 simp only [World.size_alloc] at h12
 have hg := qh9 ((hb2.block w.heap.size (by simp)).trans (heap_alloc_new w _))
 go_wp2_with (refine storeV (w1 := w2) rfl (.tmp 0) (.tmp 2) rfl w.heap.size _ _ rfl rfl hp _ _ hg.out rfl ?_)
 exact retV (o := .nil) rfl rfl hg.out hp (fun h => by
  rcases h with h | ⟨h, _⟩
  · exact h
  · simp at h; omega) (fun b hb => by
  rcases hb with hb | ⟨h1, h2⟩
  · exact hb.elim
  · exact .inr ⟨by simp at h1; omega, h2⟩) (Nat.le_refl _) ((Below.alloc (Below.refl _ _) (Nat.le_refl _) _).trans (hb2.mono (by simp)))
theorem tP (w : World) (S : Nat → Prop) : Calls Tryz.prog 162 #[] w (RetO w S .t) := by
 go_enter Tryz.func162, Tryz.ntmps162
 go_wp2_with fail
 refine (symP _ _ _ (fun _ => False)).mono ?_
 rintro e w2 ⟨p, rfl, hp, hb2⟩
 have h12 := hb2.size
 simp only [World.size_alloc] at h12
 have hg := qh9 ((hb2.block w.heap.size (by simp)).trans (heap_alloc_new w _))
 go_wp2_with (refine storeV (w1 := w2) rfl (.tmp 0) (.tmp 2) rfl w.heap.size _ _ rfl rfl hp _ _ hg.out rfl ?_)
 exact retV (o := .t) rfl rfl hg.out hp (fun h => by
  rcases h with h | ⟨h, _⟩
  · exact h
  · simp at h; omega) (fun b hb => by
  rcases hb with hb | ⟨h1, h2⟩
  · exact hb.elim
  · exact .inr ⟨by simp at h1; omega, h2⟩) (Nat.le_refl _) ((Below.alloc (Below.refl _ _) (Nat.le_refl _) _).trans (hb2.mono (by simp)))

set_option maxHeartbeats 400000 in
set_option maxRecDepth 100000 in
theorem fromIntP (n : Int) (w : World) (h : Hid (I64 n)) (ht : Tab w) :
 Calls Tryz.prog 169 #[.int .i64 n] w (RetS w n) := by
 replace ht := qh9 ht
 go_enter Tryz.func169, Tryz.ntmps169
 go_wp2_with fail
 refine (itoa_any n w h ht.out).mono ?_
 rintro e w1 ⟨rfl, hb1⟩
 go_wp2
 go_ret
 exact ⟨rfl, hb1⟩
theorem int_nt (n : Int) : nt (n : Rat) = BA (text n) := by unfold nt; rw [Rat.num_intCast]
theorem int_dt (n : Int) : dt (n : Rat) = ⟨#[49]⟩ := by
 unfold dt; rw [Rat.den_intCast]; decide

set_option maxHeartbeats 400000 in
set_option maxRecDepth 100000 in
theorem intP (n : Int) (w : World) (S : Nat → Prop) (h : Hid (I64 n)) (ht : Tab w) :
 Calls Tryz.prog 137 #[.int .i64 n] w (RetO w S (.num (n : Rat))) := by
 replace ht := qh9 ht
 go_enter Tryz.func137, Tryz.ntmps137
 go_wp2_with fail
 have hb0 : Below w.heap.size w (w.alloc (Obj.cells #[Value.int IntKind.i64 0, Value.string { data := #[] }, Value.string { data := #[] }, Value.string { data := #[] }, Value.string { data := #[] }, Value.string { data := #[] }, Value.slice none 0 0] 27)) := Below.alloc (Below.refl _ _) (Nat.le_refl _) _
 have hg0 := heap_alloc_new w (Obj.cells #[Value.int IntKind.i64 0, Value.string { data := #[] }, Value.string { data := #[] }, Value.string { data := #[] }, Value.string { data := #[] }, Value.string { data := #[] }, Value.slice none 0 0] 27)
 refine (fromIntP n _ h (ht.out.below hb0)).mono ?_
 rintro e w1 ⟨rfl, hb1⟩
 have hg1 := qh9 ((hb1.block w.heap.size (by simp)).trans hg0)
 clear hg0
 have hbw := qh9 (hb0.trans (hb1.mono hb0.size))
 have ev : Hid (Value.agg #[.int .i64 1, .string (BA (text n)), .string ⟨#[49]⟩, e0, e0, e0, .slice none 0 0] = vO (.num (n : Rat)) (.slice none 0 0)) := by
  show _ = Value.agg #[.int .i64 1, .string (nt (n : Rat)), .string (dt (n : Rat)), e0, e0, e0, .slice none 0 0]
  rw [int_nt, int_dt]
 clear hb0 hb1
 go_wp2_with (refine storeV (w1 := w1) (S := fun _ => False) rfl (.tmp 2) (.tmp 5) rfl w.heap.size (.num (n : Rat)) (.slice none 0 0) rfl ev.out rfl _ _ hg1.out rfl ?_)
 exact retV (S' := fun _ => False) rfl rfl hg1.out rfl (fun h => h) (fun _ h => h.elim) (Nat.le_refl _) hbw.out

def Bd (k : Nat) (q : Rat) : Prop := q.num.natAbs < 10 ^ k ∧ q.den < 10 ^ k
theorem bd_nt {k : Nat} {q : Rat} (h : Bd k q) : (nt q).size ≤ k + 2 := by unfold nt; rw [BA_size]; exact text_length h.1
theorem bd_dt {k : Nat} {q : Rat} (h : Bd k q) : (dt q).size ≤ k + 2 := by unfold dt; rw [BA_size]; exact text_length h.2
theorem pow_le {j k : Nat} (h : j ≤ k) : 10 ^ j ≤ 10 ^ k := Nat.pow_le_pow_right (by omega) h
theorem Bd.more {j k : Nat} {q : Rat} (h : Bd j q) (hk : j ≤ k) : Bd k q := ⟨Nat.lt_of_lt_of_le h.1 (pow_le hk), Nat.lt_of_lt_of_le h.2 (pow_le hk)⟩
theorem bd_divInt {k : Nat} {n d : Int} (hn : n.natAbs < 10 ^ k) (hd : d.natAbs < 10 ^ k) (hk : 0 < k) : Bd k (Rat.divInt n d) := by
 by_cases h0 : d = 0
 · subst h0
   rw [Rat.divInt_zero]
   exact ⟨Nat.pow_pos (by omega), Nat.lt_of_lt_of_le (show 1 < 10 ^ 1 by decide) (pow_le hk)⟩
 · constructor
   · rw [Rat.num_divInt]
     refine Nat.lt_of_le_of_lt (Int.natAbs_ediv_le_natAbs _ _) ?_
     rw [Int.natAbs_mul, Int.natAbs_sign_of_ne_zero h0, Nat.one_mul]
     exact hn
   · rw [Rat.den_divInt, if_neg h0]
     exact Nat.lt_of_le_of_lt (Nat.div_le_self _ _) hd
theorem bd_quo {k : Nat} {l m : List UInt8} (hl : l.length ≤ k) (hm : m.length ≤ k) (hk : 0 < k) : Bd k (quo l m) := by
 unfold quo
 refine bd_divInt ?_ ?_ hk
 · rw [val_natAbs]; exact Nat.lt_of_lt_of_le (mag_lt l) (pow_le (by omega))
 · rw [val_natAbs]; exact Nat.lt_of_lt_of_le (mag_lt m) (pow_le (by omega))
theorem lt_pow_mul {a b j k : Nat} (ha : a < 10 ^ j) (hb : b < 10 ^ k) : a * b < 10 ^ (j + k) := by
 rw [Nat.pow_add]
 exact Nat.mul_lt_mul'' ha hb
theorem bd_mul {j k : Nat} {x y : Rat} (hx : Bd j x) (hy : Bd k y) (hk : 0 < j + k) : Bd (j + k) (x * y) := by
 rw [← q_mul]
 refine bd_divInt ?_ ?_ hk
 · rw [Int.natAbs_mul]; exact lt_pow_mul hx.1 hy.1
 · rw [Int.natAbs_mul]; exact lt_pow_mul hx.2 hy.2
theorem bd_add {j k : Nat} {x y : Rat} (hx : Bd j x) (hy : Bd k y) : Bd (j + k + 1) (x + y) := by
 rw [← q_add]
 have h1 := lt_pow_mul hx.1 hy.2
 have h2 := lt_pow_mul hy.1 hx.2
 have h3 := lt_pow_mul hx.2 hy.2
 rw [Nat.add_comm k j] at h2
 have hp : 10 ^ (j + k + 1) = 10 ^ (j + k) * 10 := Nat.pow_succ ..
 refine bd_divInt ?_ ?_ (by omega)
 · refine Nat.lt_of_le_of_lt (Int.natAbs_add_le _ _) ?_
   rw [Int.natAbs_mul, Int.natAbs_mul, Int.natAbs_natCast, Int.natAbs_natCast, hp]
   omega
 · rw [Int.natAbs_mul, Int.natAbs_natCast, Int.natAbs_natCast, hp]
   omega
theorem bd_int {k : Nat} {n : Int} (hn : n.natAbs < 10 ^ k) (hk : 0 < k) : Bd k (n : Rat) := by
 rw [← q_int]
 exact bd_divInt hn (Nat.lt_of_lt_of_le (show 1 < 10 ^ 1 by decide) (pow_le hk)) hk

def Ob.bd (k : Nat) : Ob → Prop
 | .num q => Bd k q
 | .str s => s.length ≤ 2 * k + 20
 | .sym p n => SyOk p n
 | .cons a d => a.bd k ∧ d.bd k
def eqI (a b : Ob) : Int := if a = b then 0 else 1
def ordX (x : Bool) (a b : Ob) : Int := if x then eqI a b else ordO a b
theorem ordX_cons (x : Bool) (a d a' d' : Ob) : ordX x (.cons a d) (.cons a' d') = next (ordX x a a') (ordX x d d') := by
 unfold ordX
 cases x
 · rfl
 · simp only [if_true]
   unfold eqI next
   by_cases h1 : a = a'
   · subst h1; simp
   · simp [h1]
theorem ordX_zero (x : Bool) (a b : Ob) : ordX x a b = 0 ↔ a = b := by
 unfold ordX
 cases x
 · exact ordO_zero a b
 · simp only [if_true]
   unfold eqI
   split
   · rename_i h; exact ⟨fun _ => h, fun _ => rfl⟩
   · rename_i h; exact ⟨fun e => by omega, fun e => absurd e h⟩
def Ob.isCons : Ob → Bool
 | .cons _ _ => true
 | _ => false
def owp (x : Bool) (a b : Ob) : Int := if a.isCons && b.isCons then 0 else ordX x a b
def At (w : World) (S : Nat → Prop) (o : Ob) (b k : Nat) (p : Value) : Prop :=
 (S b ∧ Plain w b) ∧ (∀ j u, (cellsO o p)[j]? = some u → w.cell? ⟨b, k + j, none⟩ = some u) ∧ Pair w S o p
theorem At.keep {w w' : World} {S S' : Nat → Prop} (hS : ∀ b, S b → S' b) (hk : ∀ b, S b → w'.heap[b]? = w.heap[b]?) {o : Ob} {b k : Nat} {p : Value} (h : At w S o b k p) : At w' S' o b k p :=
 ⟨⟨hS b h.1.1, h.1.2.keep (hk b h.1.1)⟩, fun j u hj => (World.cell?_of_block (a := ⟨b, k + j, none⟩) (hk b h.1.1)).trans (h.2.1 j u hj), h.2.2.keep hS hk⟩
theorem At.below {w w' : World} {S : Nat → Prop} {B : Nat} {o : Ob} {b k : Nat} {p : Value} (h : At w S o b k p) (hS : ∀ b, S b → b < B) (hb : Below B w w') : At w' S o b k p := h.keep (fun _ h => h) fun q hq => hb.block q (hS q hq)
theorem At.more {w : World} {S S' : Nat → Prop} {o : Ob} {b k : Nat} {p : Value} (h : At w S o b k p) (hS : ∀ b, S b → S' b) : At w S' o b k p := h.keep hS fun _ _ => rfl
theorem At.cells {w : World} {S : Nat → Prop} {o : Ob} {b k : Nat} {p : Value} (h : At w S o b k p) : ∃ x0 x1 x2 x3 x4 x5, cellsO o p = [x0, x1, x2, x3, x4, x5, p] ∧
 w.cell? ⟨b, k, none⟩ = some x0 ∧ w.cell? ⟨b, k + 1, none⟩ = some x1 ∧ w.cell? ⟨b, k + 2, none⟩ = some x2 ∧ w.cell? ⟨b, k + 3, none⟩ = some x3 ∧ w.cell? ⟨b, k + 4, none⟩ = some x4 ∧ w.cell? ⟨b, k + 5, none⟩ = some x5 ∧ w.cell? ⟨b, k + 6, none⟩ = some p := by
 obtain ⟨x0, x1, x2, x3, x4, x5, e⟩ := cells7 o p
 have hc := h.2.1
 rw [e] at hc
 exact ⟨x0, x1, x2, x3, x4, x5, e, hc 0 _ rfl, hc 1 _ rfl, hc 2 _ rfl, hc 3 _ rfl, hc 4 _ rfl, hc 5 _ rfl, hc 6 _ rfl⟩
theorem At.last {w : World} {S : Nat → Prop} {o : Ob} {b k : Nat} {p : Value} (h : At w S o b k p) : w.cell? ⟨b, k + 6, none⟩ = some p := by
 obtain ⟨_, _, _, _, _, _, _, _, _, _, _, _, _, h6⟩ := h.cells; exact h6
theorem Pair.parts {w : World} {S : Nat → Prop} {a d : Ob} {p : Value} (h : Pair w S (.cons a d) p) : ∃ b o c pa pd, p = .slice (some ⟨b, o, none⟩) 2 c ∧ 2 ≤ c ∧ At w S a b o pa ∧ At w S d b (o + 7) pd := by
 obtain ⟨b, o, c, pa, pd, h1, h2, h3, h4, h5, h6⟩ := h
 refine ⟨b, o, c, pa, pd, h1, h2, ⟨h3, fun j u hj => h4 j u ?_, h5⟩, ⟨h3, fun j u hj => ?_, h6⟩⟩
 · rw [List.getElem?_append_left (by
    rcases Nat.lt_or_ge j (cellsO a pa).length with hlt | hge
    · exact hlt
    · rw [List.getElem?_eq_none hge] at hj; cases hj)]
   exact hj
 · rw [show o + 7 + j = o + (7 + j) from by omega]
   refine h4 (7 + j) u ?_
   rw [List.getElem?_append_right (by rw [cellsO_length]; omega), cellsO_length, show 7 + j - 7 = j from by omega]
   exact hj
theorem Pair.flat {w : World} {S : Nat → Prop} {o : Ob} {p : Value} (h : Pair w S o p) (ho : o.isCons = false) : p = .slice none 0 0 := by
 cases o with
 | cons a d => simp [Ob.isCons] at ho
 | _ => exact h

theorem BA_inj {l m : List UInt8} (h : BA l = BA m) : l = m := by
 have := congrArg LA h
 rwa [LA_BA, LA_BA] at this
theorem cells_inj {w : World} {S S' : Nat → Prop} : ∀ {a a' : Ob} {p p' : Value}, cellsO a p = cellsO a' p' → Pair w S a p → Pair w S' a' p' → a = a' ∧ p = p'
 | .num q, .num q', p, p', h, _, _ => by
  unfold cellsO at h
  simp only [List.cons.injEq, Value.string.injEq, and_true, true_and] at h
  exact ⟨by rw [q_ext h.1 h.2.1], h.2.2⟩
 | .str s, .str s', p, p', h, _, _ => by
  unfold cellsO at h
  simp only [List.cons.injEq, Value.string.injEq, and_true, true_and] at h
  exact ⟨by rw [BA_inj h.1], h.2⟩
 | .sym x y, .sym x' y', p, p', h, _, _ => by
  unfold cellsO at h
  simp only [List.cons.injEq, Value.string.injEq, and_true, true_and] at h
  exact ⟨by rw [BA_inj h.1, BA_inj h.2.1], h.2.2⟩
 | .cons a d, .cons a' d', p, p', h, hp, hp' => by
  unfold cellsO at h
  simp only [List.cons.injEq, and_true, true_and] at h
  subst h
  obtain ⟨b, o, c, pa, pd, rfl, h2, h3, h4, h5, h6⟩ := hp
  obtain ⟨b', o', c', pa', pd', e, h2', h3', h4', h5', h6'⟩ := hp'
  simp only [Value.slice.injEq, Option.some.injEq, Addr.mk.injEq, true_and, and_true] at e
  obtain ⟨⟨rfl, rfl⟩, rfl⟩ := e
  have key : cellsO a pa ++ cellsO d pd = cellsO a' pa' ++ cellsO d' pd' := by
   apply List.ext_getElem?
   intro j
   by_cases hj : j < 14
   · have l1 : j < (cellsO a pa ++ cellsO d pd).length := by rw [List.length_append, cellsO_length, cellsO_length]; omega
     have l2 : j < (cellsO a' pa' ++ cellsO d' pd').length := by rw [List.length_append, cellsO_length, cellsO_length]; omega
     have e1 := h4 j _ (List.getElem?_eq_getElem l1)
     have e2 := h4' j _ (List.getElem?_eq_getElem l2)
     rw [List.getElem?_eq_getElem l1, List.getElem?_eq_getElem l2, ← e1, ← e2]
   · rw [List.getElem?_eq_none (by rw [List.length_append, cellsO_length, cellsO_length]; omega), List.getElem?_eq_none (by rw [List.length_append, cellsO_length, cellsO_length]; omega)]
  have k1 : cellsO a pa = cellsO a' pa' ∧ cellsO d pd = cellsO d' pd' := List.append_inj key (by rw [cellsO_length, cellsO_length])
  obtain ⟨ea, _⟩ := cells_inj k1.1 h5 h5'
  obtain ⟨ed, _⟩ := cells_inj k1.2 h6 h6'
  exact ⟨by rw [ea, ed], rfl⟩
 | .num _, .str _, _, _, h, _, _ => by simp [cellsO] at h
 | .num _, .sym _ _, _, _, h, _, _ => by simp [cellsO] at h
 | .num _, .cons _ _, _, _, h, _, _ => by simp [cellsO] at h
 | .str _, .num _, _, _, h, _, _ => by simp [cellsO] at h
 | .str _, .sym _ _, _, _, h, _, _ => by simp [cellsO] at h
 | .str _, .cons _ _, _, _, h, _, _ => by simp [cellsO] at h
 | .sym _ _, .num _, _, _, h, _, _ => by simp [cellsO] at h
 | .sym _ _, .str _, _, _, h, _, _ => by simp [cellsO] at h
 | .sym _ _, .cons _ _, _, _, h, _, _ => by simp [cellsO] at h
 | .cons _ _, .num _, _, _, h, _, _ => by simp [cellsO] at h
 | .cons _ _, .str _, _, _, h, _, _ => by simp [cellsO] at h
 | .cons _ _, .sym _ _, _, _, h, _, _ => by simp [cellsO] at h
theorem At.inj {w : World} {S S' : Nat → Prop} {a a' : Ob} {b k : Nat} {p p' : Value} (h : At w S a b k p) (h' : At w S' a' b k p') : a = a' := by
 refine (cells_inj (w := w) (List.ext_getElem? fun j => ?_) h.2.2 h'.2.2).1
 by_cases hj : j < 7
 · have l1 : j < (cellsO a p).length := by rw [cellsO_length]; omega
   have l2 : j < (cellsO a' p').length := by rw [cellsO_length]; omega
   have e1 := h.2.1 j _ (List.getElem?_eq_getElem l1)
   have e2 := h'.2.1 j _ (List.getElem?_eq_getElem l2)
   rw [List.getElem?_eq_getElem l1, List.getElem?_eq_getElem l2, ← e1, ← e2]
 · rw [List.getElem?_eq_none (by rw [cellsO_length]; omega), List.getElem?_eq_none (by rw [cellsO_length]; omega)]

def RetB (w : World) (r : Bool) (e : Ending) (w' : World) : Prop := e = .returned (.bool r) ∧ Below w.heap.size w w'
set_option maxHeartbeats 1000000 in
set_option maxRecDepth 100000 in
theorem isNilRaw (k : Int) (s1 s2 s3 s4 s5 : ByteArray) (p : Value) (w : World) :
 Calls Tryz.prog 124 #[.agg #[.int .i64 k, .string s1, .string s2, .string s3, .string s4, .string s5, p]] w (RetB w (k == 2 && (s3.toList == lispB && s4.toList == [110, 105, 108]))) := by
 unfold lispB
 cases h1 : (k == 2) with
 | false =>
  go_enter Tryz.func124, Tryz.ntmps124
  go_wp2
  go_ret
  exact ⟨rfl, Below.alloc (Below.refl _ _) (Nat.le_refl _) _⟩
 | true =>
  cases h2 : (s3.toList == [108, 105, 115, 112]) with
  | false =>
   go_enter Tryz.func124, Tryz.ntmps124
   go_wp2
   go_ret
   exact ⟨rfl, Below.alloc (Below.refl _ _) (Nat.le_refl _) _⟩
  | true =>
   cases h3 : (s4.toList == [110, 105, 108]) with
   | false =>
    go_enter Tryz.func124, Tryz.ntmps124
    go_wp2
    go_ret
    exact ⟨rfl, Below.alloc (Below.refl _ _) (Nat.le_refl _) _⟩
   | true =>
    go_enter Tryz.func124, Tryz.ntmps124
    go_wp2
    go_ret
    exact ⟨rfl, Below.alloc (Below.refl _ _) (Nat.le_refl _) _⟩
set_option maxHeartbeats 1000000 in
set_option maxRecDepth 100000 in
theorem isIntegerRaw (k : Int) (s1 s2 s3 s4 s5 : ByteArray) (p : Value) (w : World) :
 Calls Tryz.prog 130 #[.agg #[.int .i64 k, .string s1, .string s2, .string s3, .string s4, .string s5, p]] w (RetB w (k == 1 && (s2.toList == [49]))) := by
 cases h1 : (k == 1) with
 | false =>
  go_enter Tryz.func130, Tryz.ntmps130
  go_wp2
  go_ret
  exact ⟨rfl, Below.alloc (Below.refl _ _) (Nat.le_refl _) _⟩
 | true =>
  cases h2 : (s2.toList == [49]) with
  | false =>
   go_enter Tryz.func130, Tryz.ntmps130
   go_wp2
   go_ret
   exact ⟨rfl, Below.alloc (Below.refl _ _) (Nat.le_refl _) _⟩
  | true =>
   go_enter Tryz.func130, Tryz.ntmps130
   go_wp2
   go_ret
   exact ⟨rfl, Below.alloc (Below.refl _ _) (Nat.le_refl _) _⟩

theorem BA_toList (l : List UInt8) : (BA l).toList = l := by rw [Lib.toList_data]; unfold BA; simp
theorem cells_flat (o : Ob) (p : Value) : ∃ (k : Int) (s1 s2 s3 s4 s5 : ByteArray), cellsO o p = [.int .i64 k, .string s1, .string s2, .string s3, .string s4, .string s5, p] ∧
 (k == 2 && (s3.toList == lispB && s4.toList == [110, 105, 108])) = decide (o = .nil) ∧ (k == 1 && (s2.toList == [49])) = (match o with | .num q => decide (q.den = 1) | _ => false) := by
 cases o with
 | num q =>
  refine ⟨1, nt q, dt q, ⟨#[]⟩, ⟨#[]⟩, ⟨#[]⟩, rfl, by simp [Ob.nil], ?_⟩
  simp only [beq_self_eq_true, Bool.true_and]
  have e : (⟨#[49]⟩ : ByteArray) = BA (text 1) := by decide
  by_cases h : q.den = 1
  · rw [decide_eq_true h]; unfold dt; rw [h, BA_toList]; decide
  · rw [decide_eq_false h]
    have := beq_BA (text (q.den : Int)) [49]
    rw [BA_toList [49]] at this
    unfold dt
    rw [this, decide_eq_false]
    intro e
    have e2 := congrArg val e
    rw [val_text, show val [49] = 1 from by decide] at e2
    omega
 | str s => exact ⟨3, ⟨#[]⟩, ⟨#[]⟩, ⟨#[]⟩, ⟨#[]⟩, BA s, rfl, by simp [Ob.nil], rfl⟩
 | sym x y =>
  refine ⟨2, ⟨#[]⟩, ⟨#[]⟩, BA x, BA y, ⟨#[]⟩, rfl, ?_, rfl⟩
  have h1 := beq_BA x lispB
  have h2 := beq_BA y [110, 105, 108]
  rw [BA_toList lispB] at h1
  rw [BA_toList [110, 105, 108]] at h2
  rw [h1, h2, ← Bool.decide_and]
  simp [Ob.nil]
 | cons a d => exact ⟨4, ⟨#[]⟩, ⟨#[]⟩, ⟨#[]⟩, ⟨#[]⟩, ⟨#[]⟩, rfl, by simp [Ob.nil], rfl⟩
def Ob.isInt : Ob → Bool
 | .num q => decide (q.den = 1)
 | _ => false
theorem isNilP (o : Ob) (p : Value) (w : World) : Calls Tryz.prog 124 #[vO o p] w (RetB w (decide (o = .nil))) := by
 obtain ⟨k, s1, s2, s3, s4, s5, e, e1, _⟩ := cells_flat o p
 unfold vO
 rw [e, ← e1]
 exact isNilRaw k s1 s2 s3 s4 s5 p w
theorem isIntegerP (o : Ob) (p : Value) (w : World) : Calls Tryz.prog 130 #[vO o p] w (RetB w o.isInt) := by
 obtain ⟨k, s1, s2, s3, s4, s5, e, _, e2⟩ := cells_flat o p
 have e3 : o.isInt = (k == 1 && (s2.toList == [49])) := by rw [e2]; cases o <;> rfl
 unfold vO
 rw [e, e3]
 exact isIntegerRaw k s1 s2 s3 s4 s5 p w
def CntW (w wr : World) (S : Nat → Prop) (x : Ob) (b k : Nat) (m r : Int) : Prop := (∃ p, At w S x b k p) ∧ m + x.nodes = r ∧ w = wr

set_option maxHeartbeats 2000000 in
set_option maxRecDepth 100000 in
theorem countO : ∀ (N : Nat) (a : Ob) (b k : Nat) (p : Value) (m : Int) (w : World) (S : Nat → Prop), a.nodes ≤ N → At w S a b k p → 0 ≤ m → m + a.nodes ≤ 3000 →
 Calls Tryz.prog 108 #[.pointer (some ⟨b, k, none⟩), .int .i64 m] w fun e w' => e = .returned (.int .i64 (m + a.nodes)) ∧ w = w' := by
 intro N
 induction N with
 | zero => intro a b k p m w S hN; have := a.nodes_pos; omega
 | succ N IH =>
  intro a b k p m w S hN h hm hmn
  have pos := a.nodes_pos
  have IH' := qh9 IH
  clear IH
  obtain ⟨R, hR⟩ : ∃ R : Int, m + a.nodes = R := ⟨_, rfl⟩
  rw [hR] at hmn ⊢
  have h0 : Hid (CntW w w S a b k m R) := ⟨⟨p, h⟩, hR, rfl⟩
  clear h hR
  go_enter Tryz.func108, Tryz.ntmps108
  go_wp2_with fail
  go_loopg [0, 1] a.nodes (fun n u v wr => ∃ (x : Ob) (b k : Nat) (m : Int), u = .pointer (some ⟨b, k, none⟩) ∧ v = .int .i64 m ∧ 0 ≤ m ∧ x.nodes ≤ n ∧ n ≤ N + 1 ∧ Hid (CntW w wr S x b k m R))
  case atStart => exact ⟨a, b, k, m, rfl, rfl, hm, Nat.le_refl _, hN, h0⟩
  case round =>
   clear h0
   obtain ⟨x, b, k, m, rfl, rfl, hm, hxn, hnN, hE⟩ := hrel
   obtain ⟨⟨p, h⟩, hR, hw⟩ := hE.out
   subst hw
   clear hE
   have posx := x.nodes_pos
   have l6 := h.last
   cases hx : x.isCons with
   | false =>
    obtain rfl := h.2.2.flat hx
    have hx1 : x.nodes = 1 := by cases x <;> first | rfl | simp [Ob.isCons] at hx
    have hR' : m + 1 = R := by omega
    have hmm : m ≤ 3000 := by omega
    have HR := qh9 hR'
    clear hR hR' hx h
    go_wp2
    go_ret
    exact ⟨ret_int HR.out, rfl⟩
   | true =>
    cases x with
    | cons a d =>
     obtain ⟨b', o', c', pa, pd, rfl, hc, hA, hD⟩ := h.2.2.parts
     have hnn : (Ob.cons a d).nodes = 1 + a.nodes + d.nodes := rfl
     have pa1 := a.nodes_pos
     have pd1 := d.nodes_pos
     have call := qh9 (IH'.out a b' o' pa (m + 1) w S (by omega) hA (by omega) (by omega))
     have hE2 : Hid (CntW w w S d b' (o' + 7) (m + 1 + a.nodes) R) := ⟨⟨pd, hD⟩, by omega, rfl⟩
     have hq : 0 ≤ m + 1 + a.nodes := by omega
     have hd : d.nodes < gk := by omega
     have hd2 : d.nodes ≤ N + 1 := by omega
     have hmm : m ≤ 3000 := by omega
     have hm3 : m + 1 ≤ 3001 := by omega
     clear hx h hA hD hR hnn
     go_wp2_with fail
     refine call.out.mono ?_
     rintro e w' ⟨rfl, rfl⟩
     go_wp2_with fail
     go_roundg d.nodes
     case measure => exact hd
     case rel => exact ⟨d, b', o' + 7, m + 1 + a.nodes, rfl, rfl, hq, Nat.le_refl _, hd2, hE2⟩
    | _ => simp [Ob.isCons] at hx
theorem nodesP (a : Ob) (p : Value) (w : World) (S : Nat → Prop) (hS : In S w) (h : Pair w S a p) (hn : a.nodes ≤ 3000) :
 Calls Tryz.prog 55 #[vO a p] w (fun e w' => e = .returned (.int .i64 a.nodes) ∧ Below w.heap.size w w') := by
 obtain ⟨x0, x1, x2, x3, x4, x5, e⟩ := cells7 a p
 have hb : Below w.heap.size w (w.alloc (.cells #[x0, x1, x2, x3, x4, x5, p] 27)) := Below.alloc (Below.refl _ _) (Nat.le_refl _) _
 have hA : At (w.alloc (.cells #[x0, x1, x2, x3, x4, x5, p] 27)) (fun b => S b ∨ b = w.heap.size) a w.heap.size 0 p := by
  refine ⟨⟨.inr rfl, _, _, heap_alloc_new w _⟩, fun j u hj => ?_, (h.below hS hb).more fun _ h => .inl h⟩
  rw [Nat.zero_add, cell_of_row _ _ _ _ _ _ (heap_alloc_new w _), ← hj, e]
  simp
 have call := qh9 (countO a.nodes a w.heap.size 0 p 0 _ _ (Nat.le_refl _) hA (by omega) (by omega))
 unfold vO
 rw [e]
 clear e hA
 go_enter Tryz.func55, Tryz.ntmps55
 go_wp2_with fail
 refine call.out.mono ?_
 rintro e w' ⟨rfl, rfl⟩
 have HB := qh9 hb
 clear hb
 go_wp2
 go_ret
 exact ⟨ret_int (by omega), HB.out⟩
def Ob.cnt : Ob → Nat → Option Nat
 | .cons _ d, n => d.cnt (n + 1)
 | x, n => if x = .nil then some n else none


def QuietV (w : World) (v : Value) (e : Ending) (w' : World) : Prop := e = .returned v ∧ ∃ n, w' = w.drewN n
theorem QuietV.below {w w' : World} {v : Value} {e : Ending} (h : QuietV w v e w') : e = .returned v ∧ Below w.heap.size w w' := by
 obtain ⟨h1, n, rfl⟩ := h
 exact ⟨h1, rfl, rfl, rfl, Nat.le_refl _, fun _ _ => rfl⟩
theorem quiet_same {P : Program} {f : FuncId} {args : Array Value} {w : World} {n : Nat} {v : Value}
 (h : Calls P f args (w.drewN n) fun e w' => e = .returned v ∧ w.drewN n = w') : Calls P f args (w.drewN n) fun e w'' => e = .returned v ∧ ∃ m, w'' = w.drewN m :=
 h.mono fun _ _ ⟨he, hm⟩ => ⟨he, n, hm.symm⟩

set_option maxHeartbeats 4000000 in
set_option maxRecDepth 100000 in
theorem sameRaw (b k b' k' : Nat) (w : World) (x y : Int) (s1 s2 s3 s4 s5 t1 t2 t3 t4 t5 : ByteArray)
 (l0 : w.cell? ⟨b, k, none⟩ = some (.int .i64 x)) (l1 : w.cell? ⟨b, k + 1, none⟩ = some (.string s1)) (l2 : w.cell? ⟨b, k + 2, none⟩ = some (.string s2)) (l3 : w.cell? ⟨b, k + 3, none⟩ = some (.string s3)) (l4 : w.cell? ⟨b, k + 4, none⟩ = some (.string s4)) (l5 : w.cell? ⟨b, k + 5, none⟩ = some (.string s5))
 (m0 : w.cell? ⟨b', k', none⟩ = some (.int .i64 y)) (m1 : w.cell? ⟨b', k' + 1, none⟩ = some (.string t1)) (m2 : w.cell? ⟨b', k' + 2, none⟩ = some (.string t2)) (m3 : w.cell? ⟨b', k' + 3, none⟩ = some (.string t3)) (m4 : w.cell? ⟨b', k' + 4, none⟩ = some (.string t4)) (m5 : w.cell? ⟨b', k' + 5, none⟩ = some (.string t5)) :
 Calls Tryz.prog 147 #[.pointer (some ⟨b, k, none⟩), .pointer (some ⟨b', k', none⟩)] w (QuietV w (.bool (x == y && eqS s1 s2 s3 s4 s5 t1 t2 t3 t4 t5))) := by
 cases h0 : (x == y) with
 | false =>
  have hr : (false && eqS s1 s2 s3 s4 s5 t1 t2 t3 t4 t5) = false := rfl
  have hn : (x != y) = true := by rw [bne, h0]; rfl
  rw [hr]
  clear hr
  go_enter Tryz.func147, Tryz.ntmps147
  go_wp2_with fail
  go_quiet (fail)
  go_wp2
  go_ret
  exact ⟨rfl, _, rfl⟩
 | true =>
  cases h1 : (s1.toList == t1.toList) with
  | false =>
   have hr : (true && eqS s1 s2 s3 s4 s5 t1 t2 t3 t4 t5) = false := by unfold eqS; rw [h1]; simp
   rw [hr]
   clear hr
   go_enter Tryz.func147, Tryz.ntmps147
   go_wp2_with fail
   go_quiet (fail)
   go_wp2
   go_ret
   exact ⟨rfl, _, rfl⟩
  | true =>
   cases h2 : (s2.toList == t2.toList) with
   | false =>
    have hr : (true && eqS s1 s2 s3 s4 s5 t1 t2 t3 t4 t5) = false := by unfold eqS; rw [h1, h2]; simp
    rw [hr]
    clear hr
    go_enter Tryz.func147, Tryz.ntmps147
    go_wp2_with fail
    go_quiet (fail)
    go_wp2
    go_ret
    exact ⟨rfl, _, rfl⟩
   | true =>
    cases h3 : (s3.toList == t3.toList) with
    | false =>
     have hr : (true && eqS s1 s2 s3 s4 s5 t1 t2 t3 t4 t5) = false := by unfold eqS; rw [h1, h2, h3]; simp
     rw [hr]
     clear hr
     go_enter Tryz.func147, Tryz.ntmps147
     go_wp2_with fail
     go_quiet (fail)
     go_wp2
     go_ret
     exact ⟨rfl, _, rfl⟩
    | true =>
     cases h4 : (s4.toList == t4.toList) with
     | false =>
      have hr : (true && eqS s1 s2 s3 s4 s5 t1 t2 t3 t4 t5) = false := by unfold eqS; rw [h1, h2, h3, h4]; simp
      rw [hr]
      clear hr
      go_enter Tryz.func147, Tryz.ntmps147
      go_wp2_with fail
      go_quiet (fail)
      go_wp2
      go_ret
      exact ⟨rfl, _, rfl⟩
     | true =>
      cases h5 : (s5.toList == t5.toList) with
      | false =>
       have hr : (true && eqS s1 s2 s3 s4 s5 t1 t2 t3 t4 t5) = false := by unfold eqS; rw [h1, h2, h3, h4, h5]; simp
       rw [hr]
       clear hr
       go_enter Tryz.func147, Tryz.ntmps147
       go_wp2_with fail
       go_quiet (fail)
       go_wp2
       go_ret
       exact ⟨rfl, _, rfl⟩
      | true =>
       have hr : (true && eqS s1 s2 s3 s4 s5 t1 t2 t3 t4 t5) = true := by unfold eqS; rw [h1, h2, h3, h4, h5]; rfl
       rw [hr]
       clear hr
       go_enter Tryz.func147, Tryz.ntmps147
       go_wp2_with fail
       go_quiet (fail)
       go_wp2
       go_ret
       exact ⟨rfl, _, rfl⟩
set_option maxHeartbeats 400000 in
set_option maxRecDepth 100000 in
theorem cmpInt (x y : Int) (w : World) (h : x ≠ y) :
 Calls Tryz.prog 188 #[.int .i64 x, .int .i64 y] w fun e w' => e = .returned (.int .i64 (ordI x y)) ∧ w = w' := by
 rcases Int.lt_trichotomy x y with g | g | g
 · have ho := qh9 (ordI_lt g)
   go_enter Tryz.func188, Tryz.ntmps188
   go_wp2
   go_ret
   exact ⟨ret_int ho.out.symm, rfl⟩
 · exact absurd g h
 · have ho := qh9 (ordI_gt g)
   have g2 : ¬ x < y := by omega
   have e1 : (x == x) = true := by simp
   go_enter Tryz.func188, Tryz.ntmps188
   go_wp2
   go_ret
   exact ⟨ret_int ho.out.symm, rfl⟩

set_option maxHeartbeats 400000 in
set_option maxRecDepth 100000 in
theorem cmpTexts (l l' : List UInt8) (s t : ByteArray) (w : World) (hs : Hid (LA s = body l)) (ht : Hid (LA t = body l')) (h1 : s.size ≤ 1000000000) (h2 : t.size ≤ 1000000000) :
 Calls Tryz.prog 180 #[.string s, .string t] w fun e w' => e = .returned (.int .i64 (ordN (mag l) (mag l'))) ∧ w = w' := by
 by_cases hl : s.size = t.size
 · have hl2 : (((s.size : Int)) == (t.size : Int)) = true := by rw [hl]; simp
   have hl3 : (((s.size : Int)) != (t.size : Int)) = false := by rw [hl]; simp
   have ho : Hid (Lib.compareBytes s.data.toList t.data.toList = ordN (mag l) (mag l')) := by
    show Lib.compareBytes (LA s) (LA t) = _
    rw [hs.out, ht.out]
    exact compare_bodies (by rw [← hs.out, ← ht.out, LA_length, LA_length, hl])
   clear hl
   go_enter Tryz.func180, Tryz.ntmps180
   go_wp2_with fail
   refine (Tryz.strings_Compare s t _).mono ?_
   rintro e w' ⟨rfl, rfl⟩
   rw [ho.out]
   go_wp2
   go_ret
   exact ⟨rfl, rfl⟩
 · have hl2 : (((s.size : Int)) == (t.size : Int)) = false := by rw [beq_eq_false_iff_ne]; omega
   have hl3 : (((s.size : Int)) != (t.size : Int)) = true := by rw [bne_iff_ne]; omega
   have ho : Hid (ordI s.size t.size = ordN (mag l) (mag l')) := by
    show _ = _
    rcases Nat.lt_or_ge s.size t.size with g | g
    · rw [ordI_lt (by omega), ordN_lt (mag_lt_of_len (by rw [← hs.out, ← ht.out, LA_length, LA_length]; exact g))]
    · rw [ordI_gt (by omega), ordN_gt (mag_lt_of_len (by rw [← hs.out, ← ht.out, LA_length, LA_length]; omega))]
   have hne : (s.size : Int) ≠ (t.size : Int) := by omega
   replace hne := qh9 hne
   clear hl
   go_enter Tryz.func180, Tryz.ntmps180
   go_wp2_with fail
   refine (cmpInt _ _ _ hne.out).mono ?_
   rintro e w' ⟨rfl, rfl⟩
   rw [ho.out]
   go_wp2
   go_ret
   exact ⟨rfl, rfl⟩

set_option maxHeartbeats 1000000 in
set_option maxRecDepth 100000 in
theorem compare_any (s t : ByteArray) (w : World) (hs : s.size ≤ 400000000) (ht : t.size ≤ 400000000) :
 Calls Tryz.prog 149 #[.string s, .string t] w fun e w' => e = .returned (.int .i64 (ordI (val (LA s)) (val (LA t)))) ∧ w = w' := by
 obtain ⟨x, hx⟩ : ∃ x, BA (body (LA s)) = x := ⟨_, rfl⟩
 obtain ⟨y, hy⟩ : ∃ y, BA (body (LA t)) = y := ⟨_, rfl⟩
 have bx : Hid (LA x = body (LA s)) := by show _ = _; rw [← hx]; rfl
 have bY : Hid (LA y = body (LA t)) := by show _ = _; rw [← hy]; rfl
 have sx : x.size ≤ 1000000000 := by have := body_length (LA s); rw [← LA_length, bx.out]; rw [LA_length] at this; omega
 have sy : y.size ≤ 1000000000 := by have := body_length (LA t); rw [← LA_length, bY.out]; rw [LA_length] at this; omega
 rw [val_eq, val_eq]
 have nx := @neg_mag (LA s)
 have ny := @neg_mag (LA t)
 have Hx := qh9 hx
 have Hy := qh9 hy
 clear hx hy
 cases hb : neg (LA s) <;> cases hb' : neg (LA t) <;> rw [hb] at nx <;> rw [hb'] at ny <;> have Hb := qh9 hb <;> have Hb' := qh9 hb' <;> clear hb hb' <;> (go_enter Tryz.func149, Tryz.ntmps149)
 · rw [ord_ff]
   clear nx ny
   go_wp2_with fail
   refine (split_any s _ (by unfold maxLen; omega)).mono ?_
   rintro e w' ⟨rfl, rfl⟩
   rw [Hx.out, Hb.out]
   go_wp2_with fail
   refine (split_any t _ (by unfold maxLen; omega)).mono ?_
   rintro e w' ⟨rfl, rfl⟩
   rw [Hy.out, Hb'.out]
   go_wp2_with fail
   refine (cmpTexts (LA s) (LA t) x y _ bx bY sx sy).mono ?_
   rintro e w' ⟨rfl, rfl⟩
   go_wp2
   go_ret
   exact ⟨rfl, rfl⟩
 · rw [ord_ft (ny rfl)]
   clear nx ny
   go_wp2_with fail
   refine (split_any s _ (by unfold maxLen; omega)).mono ?_
   rintro e w' ⟨rfl, rfl⟩
   rw [Hx.out, Hb.out]
   go_wp2_with fail
   refine (split_any t _ (by unfold maxLen; omega)).mono ?_
   rintro e w' ⟨rfl, rfl⟩
   rw [Hy.out, Hb'.out]
   go_wp2
   go_ret
   exact ⟨rfl, rfl⟩
 · rw [ord_tf (nx rfl)]
   clear nx ny
   go_wp2_with fail
   refine (split_any s _ (by unfold maxLen; omega)).mono ?_
   rintro e w' ⟨rfl, rfl⟩
   rw [Hx.out, Hb.out]
   go_wp2_with fail
   refine (split_any t _ (by unfold maxLen; omega)).mono ?_
   rintro e w' ⟨rfl, rfl⟩
   rw [Hy.out, Hb'.out]
   go_wp2
   go_ret
   exact ⟨rfl, rfl⟩
 · rw [ord_tt]
   clear nx ny
   go_wp2_with fail
   refine (split_any s _ (by unfold maxLen; omega)).mono ?_
   rintro e w' ⟨rfl, rfl⟩
   rw [Hx.out, Hb.out]
   go_wp2_with fail
   refine (split_any t _ (by unfold maxLen; omega)).mono ?_
   rintro e w' ⟨rfl, rfl⟩
   rw [Hy.out, Hb'.out]
   go_wp2_with fail
   refine (cmpTexts (LA t) (LA s) y x _ bY bx sy sx).mono ?_
   rintro e w' ⟨rfl, rfl⟩
   go_wp2
   go_ret
   exact ⟨rfl, rfl⟩

set_option maxHeartbeats 400000 in
set_option maxRecDepth 100000 in
theorem digits_any (s : ByteArray) (w : World) (hs : s.size ≤ 400000000) :
 Calls Tryz.prog 178 #[.string s] w fun e w' => e = .returned (.int .i64 ((body (LA s)).length : Nat)) ∧ w = w' := by
 obtain ⟨x, hx⟩ : ∃ x, BA (body (LA s)) = x := ⟨_, rfl⟩
 have hl : Hid ((body (LA s)).length = x.size) := by show _ = _; rw [← hx]; rfl
 rw [hl.out]
 have Hx := qh9 hx
 clear hx
 go_enter Tryz.func178, Tryz.ntmps178
 go_wp2_with fail
 refine (split_any s _ (by unfold maxLen; omega)).mono ?_
 rintro e w' ⟨rfl, rfl⟩
 rw [Hx.out]
 go_wp2
 go_ret
 exact ⟨rfl, rfl⟩

set_option maxHeartbeats 400000 in
set_option maxRecDepth 100000 in
theorem fromInt5 (w : World) :
 Calls Tryz.prog 169 #[.int .i64 5] w fun e w' => e = .returned (.string (BA (text 5))) ∧ w = w' := by
 have he : Hid ((⟨(Lib.decDigits 5).toArray⟩ : ByteArray) = BA (text 5)) := by show BA (Lib.decDigits 5) = _; rw [decDigits_eq]; rfl
 go_enter Tryz.func169, Tryz.ntmps169
 go_wp2_with fail
 refine (Tryz.strconv_Itoa_small 5 (by omega) _).mono ?_
 rintro e w' ⟨rfl, rfl⟩
 rw [he.out]
 go_wp2
 go_ret
 exact ⟨rfl, rfl⟩
def fO : Ob → Int × ByteArray × ByteArray × ByteArray × ByteArray × ByteArray
 | .num q => (1, nt q, dt q, ⟨#[]⟩, ⟨#[]⟩, ⟨#[]⟩)
 | .str s => (3, ⟨#[]⟩, ⟨#[]⟩, ⟨#[]⟩, ⟨#[]⟩, BA s)
 | .sym a n => (2, ⟨#[]⟩, ⟨#[]⟩, BA a, BA n, ⟨#[]⟩)
 | .cons _ _ => (4, ⟨#[]⟩, ⟨#[]⟩, ⟨#[]⟩, ⟨#[]⟩, ⟨#[]⟩)
theorem cellsO_f (o : Ob) (p : Value) : cellsO o p = [.int .i64 (fO o).1, .string (fO o).2.1, .string (fO o).2.2.1, .string (fO o).2.2.2.1, .string (fO o).2.2.2.2.1, .string (fO o).2.2.2.2.2, p] := by
 cases o <;> rfl
def Ob.same (a b : Ob) : Bool := (a.isCons && b.isCons) || decide (a = b)
theorem same_f (a b : Ob) : ((fO a).1 == (fO b).1 && eqS (fO a).2.1 (fO a).2.2.1 (fO a).2.2.2.1 (fO a).2.2.2.2.1 (fO a).2.2.2.2.2 (fO b).2.1 (fO b).2.2.1 (fO b).2.2.2.1 (fO b).2.2.2.2.1 (fO b).2.2.2.2.2) = a.same b := by
 cases a with
 | num q =>
  cases b with
  | num q' => show (true && eqS (nt q) (dt q) ⟨#[]⟩ ⟨#[]⟩ ⟨#[]⟩ (nt q') (dt q') ⟨#[]⟩ ⟨#[]⟩ ⟨#[]⟩) = decide (Ob.num q = Ob.num q'); unfold eqS; rw [q_beq]; simp
  | str s => simp [fO, Ob.same, Ob.isCons]
  | sym x y => simp [fO, Ob.same, Ob.isCons]
  | cons x y => simp [fO, Ob.same, Ob.isCons]
 | str s =>
  cases b with
  | str s' => show (true && eqS ⟨#[]⟩ ⟨#[]⟩ ⟨#[]⟩ ⟨#[]⟩ (BA s) ⟨#[]⟩ ⟨#[]⟩ ⟨#[]⟩ ⟨#[]⟩ (BA s')) = decide (Ob.str s = Ob.str s'); unfold eqS; rw [beq_BA]; simp
  | num q => simp [fO, Ob.same, Ob.isCons]
  | sym x y => simp [fO, Ob.same, Ob.isCons]
  | cons x y => simp [fO, Ob.same, Ob.isCons]
 | sym x y =>
  cases b with
  | sym x' y' => show (true && eqS ⟨#[]⟩ ⟨#[]⟩ (BA x) (BA y) ⟨#[]⟩ ⟨#[]⟩ ⟨#[]⟩ (BA x') (BA y') ⟨#[]⟩) = decide (Ob.sym x y = Ob.sym x' y'); unfold eqS; rw [beq_BA, beq_BA]; simp
  | num q => simp [fO, Ob.same, Ob.isCons]
  | str s => simp [fO, Ob.same, Ob.isCons]
  | cons x y => simp [fO, Ob.same, Ob.isCons]
 | cons x y =>
  cases b with
  | cons x' y' => show (true && eqS ⟨#[]⟩ ⟨#[]⟩ ⟨#[]⟩ ⟨#[]⟩ ⟨#[]⟩ ⟨#[]⟩ ⟨#[]⟩ ⟨#[]⟩ ⟨#[]⟩ ⟨#[]⟩) = true; unfold eqS; simp
  | num q => simp [fO, Ob.same, Ob.isCons]
  | str s => simp [fO, Ob.same, Ob.isCons]
  | sym x y => simp [fO, Ob.same, Ob.isCons]
theorem sameP (a a' : Ob) (b k b' k' : Nat) (p p' : Value) (w : World) (S : Nat → Prop) (h : At w S a b k p) (h' : At w S a' b' k' p') :
 Calls Tryz.prog 147 #[.pointer (some ⟨b, k, none⟩), .pointer (some ⟨b', k', none⟩)] w (QuietV w (.bool (a.same a'))) := by
 obtain ⟨x0, x1, x2, x3, x4, x5, e, l0, l1, l2, l3, l4, l5, l6⟩ := h.cells
 obtain ⟨y0, y1, y2, y3, y4, y5, e', m0, m1, m2, m3, m4, m5, m6⟩ := h'.cells
 rw [cellsO_f] at e e'
 simp only [List.cons.injEq, and_true] at e e'
 obtain ⟨rfl, rfl, rfl, rfl, rfl, rfl⟩ := e
 obtain ⟨rfl, rfl, rfl, rfl, rfl, rfl⟩ := e'
 rw [← same_f]
 exact sameRaw b k b' k' w _ _ _ _ _ _ _ _ _ _ _ _ l0 l1 l2 l3 l4 l5 m0 m1 m2 m3 m4 m5

def rankI (k : Int) : Int := if k = 1 then 1 else if k = 3 then 2 else if k = 2 then 3 else if k = 4 then 4 else 0
set_option maxHeartbeats 1000000 in
theorem rankP (k : Int) (w : World) : Calls Tryz.prog 214 #[.int .i64 k] w fun e w' => e = .returned (.int .i64 (rankI k)) ∧ w = w' := by
 by_cases h : k = 1 ∨ k = 2 ∨ k = 3 ∨ k = 4
 · rcases h with rfl | rfl | rfl | rfl
   all_goals
    go_enter Tryz.func214, Tryz.ntmps214
    go_wp2
    go_ret
    exact ⟨rfl, rfl⟩
 · have h1 : (k == 1) = false := by rw [beq_eq_false_iff_ne]; intro e; exact h (.inl e)
   have h2 : (k == 2) = false := by rw [beq_eq_false_iff_ne]; intro e; exact h (.inr (.inl e))
   have h3 : (k == 3) = false := by rw [beq_eq_false_iff_ne]; intro e; exact h (.inr (.inr (.inl e)))
   have h4 : (k == 4) = false := by rw [beq_eq_false_iff_ne]; intro e; exact h (.inr (.inr (.inr e)))
   have hr := qh9 (show (0 : Int) = rankI k by unfold rankI; rw [if_neg (by omega), if_neg (by omega), if_neg (by omega), if_neg (by omega)])
   clear h
   go_enter Tryz.func214, Tryz.ntmps214
   go_wp2
   go_ret
   exact ⟨ret_int hr.out, rfl⟩
set_option maxHeartbeats 1000000 in
theorem cmpAny (x y : Int) (w : World) : Calls Tryz.prog 188 #[.int .i64 x, .int .i64 y] w fun e w' => e = .returned (.int .i64 (ordI x y)) ∧ w = w' := by
 by_cases h : x = y
 · subst h
   have ho := qh9 (show ordI x x = 0 by unfold ordI; rw [if_neg (by omega), if_neg (by omega)])
   have hn : ¬ x < x := by omega
   go_enter Tryz.func188, Tryz.ntmps188
   go_wp2
   go_ret
   exact ⟨ret_int ho.out.symm, rfl⟩
 · exact cmpInt x y w h
set_option maxHeartbeats 1000000 in
theorem orP (c d : Int) (g : Nat) (w : World) (h0 : w.cell? ⟨g, 0, none⟩ = some (.int .i64 c)) (h1 : w.cell? ⟨g, 1, none⟩ = some (.int .i64 d)) :
 Calls Tryz.prog 215 #[.slice (some ⟨g, 0, none⟩) 2 2] w fun e w' => e = .returned (.int .i64 (next c d)) ∧ w = w' := by
 obtain ⟨r, hr⟩ : ∃ r, next c d = r := ⟨_, rfl⟩
 have HR := qh9 hr
 rw [hr]
 clear hr
 go_enter Tryz.func215, Tryz.ntmps215
 go_wp2_with fail
 go_loop [8] (fun v => ∃ i : Nat, i ≤ 2 ∧ v = .int .i64 i ∧ Hid ((0 < i → c = 0) ∧ (1 < i → d = 0))) (fun v => 2 - (intOf v).toNat)
 case atStart => exact ⟨0, by omega, rfl, ⟨fun h => by omega, fun h => by omega⟩⟩
 case round =>
  obtain ⟨i, hi, rfl, hE⟩ := hrel
  have hi3 : i = 0 ∨ i = 1 ∨ i = 2 := by omega
  rcases hi3 with rfl | rfl | rfl
  · by_cases hc : c = 0
    · have hn : (c != 0) = false := by subst hc; rfl
      have HC := qh9 hc
      clear hc
      go_wp2
      go_round
      case rel => exact ⟨1, by omega, rfl, ⟨fun _ => HC.out, fun h => by omega⟩⟩
      case measure => simp [intOf]
    · have hn : (c != 0) = true := by rw [bne_iff_ne]; exact hc
      have hr := qh9 (show c = r by rw [← HR.out]; unfold next; rw [if_neg hc])
      clear hc
      go_wp2
      go_ret
      exact ⟨ret_int hr.out, rfl⟩
  · have hc := hE.out.1 (by omega)
    by_cases hd : d = 0
    · have hn : (d != 0) = false := by subst hd; rfl
      have HC := qh9 hc
      have HD := qh9 hd
      clear hc hd
      go_wp2
      go_round
      case rel => exact ⟨2, by omega, rfl, ⟨fun _ => HC.out, fun h => HD.out⟩⟩
      case measure => simp [intOf]
    · have hn : (d != 0) = true := by rw [bne_iff_ne]; exact hd
      have hr := qh9 (show d = r by rw [← HR.out]; unfold next; rw [if_pos hc])
      clear hc hd
      go_wp2
      go_ret
      exact ⟨ret_int hr.out, rfl⟩
  · have hr := qh9 (show (0 : Int) = r by rw [← HR.out]; unfold next; rw [if_pos (hE.out.1 (by omega)), hE.out.2 (by omega)])
    go_wp2
    go_ret
    exact ⟨ret_int hr.out, rfl⟩
theorem ordI_mul (x y : Int) (d : Nat) (hd : 0 < d) : ordI (x * (d : Int)) (y * (d : Int)) = ordI x y := by
 have hd' : (0 : Int) < d := by omega
 unfold ordI
 simp only [Int.mul_lt_mul_right hd']
theorem dt_beq {x y : Rat} : ((dt x).toList == (dt y).toList) = decide (x.den = y.den) := by
 unfold dt
 rw [beq_BA]
 by_cases h : x.den = y.den
 · rw [h]; simp
 · rw [decide_eq_false h, decide_eq_false]
   intro e
   have := congrArg val e
   rw [val_text, val_text] at this
   exact h (by exact_mod_cast this)

theorem chain2 {B : Nat} {w w1 w2 : World} (h : Below B w w1) (hb : Below w1.heap.size w1 w2) (hB : B ≤ w.heap.size) : Below B w w2 := h.trans (hb.mono (Nat.le_trans hB h.size))

set_option maxHeartbeats 4000000 in
set_option maxRecDepth 100000 in
theorem cmpNumP (k : Nat) (hk : k ≤ 1000) (x y : Rat) (w : World) (hx : Bd k x) (hy : Bd k y) :
 Calls Tryz.prog 170 #[vO (.num x) (.slice none 0 0), vO (.num y) (.slice none 0 0)] w (RetI w (ordQ x y)) := by
 have b1 := bd_nt hx
 have b2 := bd_dt hx
 have b3 := bd_nt hy
 have b4 := bd_dt hy
 have v1 := qh9 (val_nt x)
 have v2 := qh9 (val_dt x)
 have v3 := qh9 (val_nt y)
 have v4 := qh9 (val_dt y)
 cases hd : ((dt x).toList == (dt y).toList) with
 | true =>
  have hR : Hid (ordI (val (LA (nt x))) (val (LA (nt y))) = ordQ x y) := by
   show _ = _
   rw [dt_beq] at hd
   have hd := of_decide_eq_true hd
   rw [v1.out, v3.out, ← ordQ_eq, hd, ordI_mul _ _ _ y.den_pos]
  change Calls Tryz.prog 170 #[.agg #[.int .i64 1, .string (nt x), .string (dt x), e0, e0, e0, .slice none 0 0], .agg #[.int .i64 1, .string (nt y), .string (dt y), e0, e0, e0, .slice none 0 0]] w _
  generalize nt x = nx at b1 hR v1 ⊢
  generalize dt x = dx at b2 hd v2 ⊢
  generalize nt y = ny at b3 hR v3 ⊢
  generalize dt y = dy at b4 hd v4 ⊢
  go_enter Tryz.func170, Tryz.ntmps170
  go_wp2_with fail
  refine (compare_any nx ny _ (by omega) (by omega)).mono ?_
  rintro e w' ⟨rfl, rfl⟩
  go_wp2
  go_ret
  exact ⟨ret_int hR.out, Below.alloc (Below.alloc (Below.refl _ _) (Nat.le_refl _) _) (by simp) _⟩
 | false =>
  have hR : Hid (ordI (val (LA (BA (text (val (LA (nt x)) * val (LA (dt y))))))) (val (LA (BA (text (val (LA (nt y)) * val (LA (dt x))))))) = ordQ x y) := by
   show _ = _
   rw [LA_BA, LA_BA, val_text, val_text, v1.out, v2.out, v3.out, v4.out, ordQ_eq]
  have s1 : (BA (text (val (LA (nt x)) * val (LA (dt y))))).size ≤ 3000 := by
   rw [v1.out, v4.out, BA_size]
   refine Nat.le_trans (text_length (k := k + k) ?_) (by omega)
   rw [Int.natAbs_mul]
   exact lt_pow_mul hx.1 hy.2
  have s2 : (BA (text (val (LA (nt y)) * val (LA (dt x))))).size ≤ 3000 := by
   rw [v3.out, v2.out, BA_size]
   refine Nat.le_trans (text_length (k := k + k) ?_) (by omega)
   rw [Int.natAbs_mul]
   exact lt_pow_mul hy.1 hx.2
  change Calls Tryz.prog 170 #[.agg #[.int .i64 1, .string (nt x), .string (dt x), e0, e0, e0, .slice none 0 0], .agg #[.int .i64 1, .string (nt y), .string (dt y), e0, e0, e0, .slice none 0 0]] w _
  generalize nt x = nx at b1 hR v1 s1 s2 ⊢
  generalize dt x = dx at b2 hd v2 hR s1 s2 ⊢
  generalize nt y = ny at b3 hR v3 s1 s2 ⊢
  generalize dt y = dy at b4 hd v4 hR s1 s2 ⊢
  clear v1 v2 v3 v4 hx hy
  go_enter Tryz.func170, Tryz.ntmps170
  go_wp2_with fail
  have c1 : ((w.alloc (.cells #[.int .i64 1, .string nx, .string dx, e0, e0, e0, .slice none 0 0] 27)).alloc (.cells #[.int .i64 1, .string ny, .string dy, e0, e0, e0, .slice none 0 0] 27)).heap[w.heap.size]? = _ := heap_alloc2_old w _ _
  have c2 : ((w.alloc (.cells #[.int .i64 1, .string nx, .string dx, e0, e0, e0, .slice none 0 0] 27)).alloc (.cells #[.int .i64 1, .string ny, .string dy, e0, e0, e0, .slice none 0 0] 27)).heap[w.heap.size + 1]? = _ := heap_alloc2_new w _ _
  have hW := Below.alloc (Below.alloc (Below.refl w.heap.size w) (Nat.le_refl _) (.cells #[.int .i64 1, .string nx, .string dx, e0, e0, e0, .slice none 0 0] 27)) (by simp) (.cells #[.int .i64 1, .string ny, .string dy, e0, e0, e0, .slice none 0 0] 27)
  have hz : ((w.alloc (.cells #[.int .i64 1, .string nx, .string dx, e0, e0, e0, .slice none 0 0] 27)).alloc (.cells #[.int .i64 1, .string ny, .string dy, e0, e0, e0, .slice none 0 0] 27)).heap.size = w.heap.size + 2 := by simp
  unfold e0 at c1 c2 hW hz ⊢
  generalize (w.alloc (.cells #[.int .i64 1, .string nx, .string dx, .string ⟨#[]⟩, .string ⟨#[]⟩, .string ⟨#[]⟩, .slice none 0 0] 27)).alloc (.cells #[.int .i64 1, .string ny, .string dy, .string ⟨#[]⟩, .string ⟨#[]⟩, .string ⟨#[]⟩, .slice none 0 0] 27) = W at c1 c2 hW hz ⊢
  have HC : Hid (∀ W', Below W.heap.size W W' → W'.cell? ⟨w.heap.size, 1, none⟩ = some (.string nx) ∧ W'.cell? ⟨w.heap.size, 2, none⟩ = some (.string dx) ∧ W'.cell? ⟨w.heap.size + 1, 1, none⟩ = some (.string ny) ∧ W'.cell? ⟨w.heap.size + 1, 2, none⟩ = some (.string dy)) := by
   intro W' hb
   have d1 := (hb.block w.heap.size (by omega)).trans c1
   have d2 := (hb.block (w.heap.size + 1) (by omega)).trans c2
   refine ⟨?_, ?_, ?_, ?_⟩
   · rw [cell_of_row _ _ _ _ _ _ d1]; rfl
   · rw [cell_of_row _ _ _ _ _ _ d1]; rfl
   · rw [cell_of_row _ _ _ _ _ _ d2]; rfl
   · rw [cell_of_row _ _ _ _ _ _ d2]; rfl
  obtain ⟨q1, q2, q3, q4⟩ := HC.out W (Below.refl _ _)
  have hB0 : Below W.heap.size W W.drew := (Below.refl _ _).drew
  clear c1 c2
  go_wp2_with fail
  go_region_held3 (fun W' => W'.cell? ⟨w.heap.size, 1, none⟩ = some (.string nx) ∧ W'.cell? ⟨w.heap.size, 2, none⟩ = some (.string dx) ∧ W'.cell? ⟨w.heap.size + 1, 1, none⟩ = some (.string ny) ∧ W'.cell? ⟨w.heap.size + 1, 2, none⟩ = some (.string dy)) (go_keep)
   (first | (go_at_call 167; refine (multiply_any _ _ _ (by omega) (by omega)).mono ?_; rintro e w3 ⟨rfl, hb3⟩; have hB3 := chain2 ‹Below W.heap.size W _› hb3 (Nat.le_refl _); obtain ⟨j1, j2, j3, j4⟩ := HC.out _ hB3) | (go_at_call 149; refine (compare_any _ _ _ (by omega) (by omega)).mono ?_; rintro e w4 ⟨rfl, rfl⟩))
  all_goals go_wp2
  all_goals go_ret
  all_goals exact ⟨ret_int hR.out, hW.trans ((‹Below W.heap.size W _› : Below W.heap.size W _).mono (by omega))⟩
theorem kindI (o : Ob) : (fO o).1 = 1 ∨ (fO o).1 = 2 ∨ (fO o).1 = 3 ∨ (fO o).1 = 4 := by cases o <;> simp [fO]
theorem rank_f (o : Ob) : rankI (fO o).1 = o.rank := by cases o <;> rfl
def ordF (a b : Ob) : Int := if a.isCons && b.isCons then 0 else ordO a b
theorem ordF_ne {a b : Ob} (h : a.rank ≠ b.rank) : ordI (rankI (fO a).1) (rankI (fO b).1) = ordF a b ∧ ordI (rankI (fO a).1) (rankI (fO b).1) ≠ 0 := by
 rw [rank_f, rank_f]
 unfold ordF
 have hc : (a.isCons && b.isCons) = false := by cases a <;> cases b <;> first | rfl | exact absurd rfl h
 rw [hc]
 simp only [Bool.false_eq_true, if_false]
 rcases Int.lt_or_gt_of_ne h with g | g
 · rw [ordO_less g, ordI_lt g]; exact ⟨rfl, by omega⟩
 · rw [ordO_more g, ordI_gt g]; exact ⟨rfl, by omega⟩

set_option maxHeartbeats 4000000 in
set_option maxRecDepth 100000 in
theorem cmpF_ne (b k b' k' : Nat) (w : World) (x y : Int) (hx : x = 1 ∨ x = 2 ∨ x = 3 ∨ x = 4) (hy : y = 1 ∨ y = 2 ∨ y = 3 ∨ y = 4) (hr : ordI (rankI x) (rankI y) ≠ 0)
 (l0 : w.cell? ⟨b, k, none⟩ = some (.int .i64 x)) (m0 : w.cell? ⟨b', k', none⟩ = some (.int .i64 y)) :
 Calls Tryz.prog 205 #[.pointer (some ⟨b, k, none⟩), .pointer (some ⟨b', k', none⟩)] w (RetI w (ordI (rankI x) (rankI y))) := by
 have HX := qh9 hx
 have HY := qh9 hy
 have hn : (ordI (rankI x) (rankI y) != 0) = true := by rw [bne_iff_ne]; exact hr
 clear hx hy hr
 go_enter Tryz.func205, Tryz.ntmps205
 go_wp2_with fail
 go_quiet ((first | (go_at_call 214; exact quiet_same (rankP _ _)) | (go_at_call 188; exact quiet_same (cmpAny _ _ _))))
 go_wp2
 go_ret
 exact ⟨rfl, rfl, rfl, rfl, Nat.le_refl _, fun _ _ => rfl⟩

set_option maxHeartbeats 4000000 in
set_option maxRecDepth 100000 in
theorem cmpF_cons (b k b' k' : Nat) (w : World)
 (l0 : w.cell? ⟨b, k, none⟩ = some (.int .i64 4)) (m0 : w.cell? ⟨b', k', none⟩ = some (.int .i64 4)) :
 Calls Tryz.prog 205 #[.pointer (some ⟨b, k, none⟩), .pointer (some ⟨b', k', none⟩)] w (RetI w 0) := by
 have hn : ordI (rankI 4) (rankI 4) = 0 := rfl
 go_enter Tryz.func205, Tryz.ntmps205
 go_wp2_with fail
 go_quiet ((first | (go_at_call 214; exact quiet_same (rankP _ _)) | (go_at_call 188; exact quiet_same (cmpAny _ _ _))))
 go_wp2
 go_ret
 exact ⟨rfl, rfl, rfl, rfl, Nat.le_refl _, fun _ _ => rfl⟩

theorem strCmp (s t : ByteArray) (w : World) : Calls Tryz.prog 202 #[.string s, .string t] w fun e w' => e = .returned (.int .i64 (ordB (LA s) (LA t))) ∧ w = w' :=
 (Tryz.strings_Compare s t w).mono fun e w' ⟨h1, h2⟩ => ⟨h1, h2.symm⟩
set_option maxHeartbeats 4000000 in
set_option maxRecDepth 100000 in
theorem cmpF_str (b k b' k' : Nat) (w : World) (s t : ByteArray)
 (l0 : w.cell? ⟨b, k, none⟩ = some (.int .i64 3)) (m0 : w.cell? ⟨b', k', none⟩ = some (.int .i64 3))
 (l5 : w.cell? ⟨b, k + 5, none⟩ = some (.string s)) (m5 : w.cell? ⟨b', k' + 5, none⟩ = some (.string t)) :
 Calls Tryz.prog 205 #[.pointer (some ⟨b, k, none⟩), .pointer (some ⟨b', k', none⟩)] w (RetI w (ordB (LA s) (LA t))) := by
 have hn : ordI (rankI 3) (rankI 3) = 0 := rfl
 go_enter Tryz.func205, Tryz.ntmps205
 go_wp2_with fail
 go_quiet ((first | (go_at_call 214; exact quiet_same (rankP _ _)) | (go_at_call 188; exact quiet_same (cmpAny _ _ _))))
 go_wp2_with fail
 have Q : Below w.heap.size w (w.drewN nq) := ⟨rfl, rfl, rfl, Nat.le_refl _, fun _ _ => rfl⟩
 replace Q := qh9 Q
 change (w.drewN nq).cell? _ = _ at l5 m5
 clear l0 m0 hn
 generalize w.drewN nq = w1 at l5 m5 Q ⊢
 go_quiet ((go_at_call 202; exact quiet_same (strCmp _ _ _)))
 have Q2 := qh9 (Q.out.trans (⟨rfl, rfl, rfl, Nat.le_refl _, fun _ _ => rfl⟩ : Below w.heap.size w1 (w1.drewN nq)))
 go_wp2
 go_ret
 exact ⟨rfl, Q2.out⟩

set_option maxHeartbeats 4000000 in
set_option maxRecDepth 100000 in
theorem cmpF_sym (b k b' k' : Nat) (w : World) (s t s' t' : ByteArray)
 (l0 : w.cell? ⟨b, k, none⟩ = some (.int .i64 2)) (m0 : w.cell? ⟨b', k', none⟩ = some (.int .i64 2))
 (l3 : w.cell? ⟨b, k + 3, none⟩ = some (.string s)) (m3 : w.cell? ⟨b', k' + 3, none⟩ = some (.string s'))
 (l4 : w.cell? ⟨b, k + 4, none⟩ = some (.string t)) (m4 : w.cell? ⟨b', k' + 4, none⟩ = some (.string t')) :
 Calls Tryz.prog 205 #[.pointer (some ⟨b, k, none⟩), .pointer (some ⟨b', k', none⟩)] w (RetI w (ordS (LA s) (LA t) (LA s') (LA t'))) := by
 have hn : ordI (rankI 2) (rankI 2) = 0 := rfl
 go_enter Tryz.func205, Tryz.ntmps205
 go_wp2_with fail
 go_quiet ((first | (go_at_call 214; exact quiet_same (rankP _ _)) | (go_at_call 188; exact quiet_same (cmpAny _ _ _))))
 go_wp2_with fail
 have Q : Below w.heap.size w (w.drewN nq) := ⟨rfl, rfl, rfl, Nat.le_refl _, fun _ _ => rfl⟩
 replace Q := qh9 Q
 change (w.drewN nq).cell? _ = _ at l3 m3 l4 m4
 clear l0 m0 hn
 generalize w.drewN nq = w1 at l3 m3 l4 m4 Q ⊢
 go_still_tail 22, (by kernel_rfl)
 still_call (Tryz.strings_Compare t t' _)
 repeat still_step
 still_call (Tryz.strings_Compare s s' _)
 refine wpStill_nil ?_
 change wpList _ _ _ _ _ w1.drew
 have Q2 := Q.out.drew
 clear l3 m3 l4 m4
 generalize w1.drew = w2 at Q2 ⊢
 go_wp2_with fail
 refine (orP _ _ _ _ (by rw [cell_of_row _ _ _ _ _ _ (heap_alloc_new w2 _)]; rfl) (by rw [cell_of_row _ _ _ _ _ _ (heap_alloc_new w2 _)]; rfl)).mono ?_
 rintro e w3 ⟨rfl, rfl⟩
 have Q3 := qh9 (Below.alloc Q2 Q2.size (.cells #[.int .i64 (Lib.compareBytes t.data.toList t'.data.toList), .int .i64 (Lib.compareBytes s.data.toList s'.data.toList)] 3))
 clear Q2
 go_wp2
 go_ret
 exact ⟨rfl, Q3.out⟩

set_option maxHeartbeats 4000000 in
set_option maxRecDepth 100000 in
theorem cmpF_num (d : Nat) (hd : d ≤ 1000) (x y : Rat) (hx : Bd d x) (hy : Bd d y) (b k b' k' : Nat) (w : World)
 (l0 : w.cell? ⟨b, k, none⟩ = some (.int .i64 1)) (l1 : w.cell? ⟨b, k + 1, none⟩ = some (.string (nt x))) (l2 : w.cell? ⟨b, k + 2, none⟩ = some (.string (dt x))) (l3 : w.cell? ⟨b, k + 3, none⟩ = some e0) (l4 : w.cell? ⟨b, k + 4, none⟩ = some e0) (l5 : w.cell? ⟨b, k + 5, none⟩ = some e0) (l6 : w.cell? ⟨b, k + 6, none⟩ = some (.slice none 0 0))
 (m0 : w.cell? ⟨b', k', none⟩ = some (.int .i64 1)) (m1 : w.cell? ⟨b', k' + 1, none⟩ = some (.string (nt y))) (m2 : w.cell? ⟨b', k' + 2, none⟩ = some (.string (dt y))) (m3 : w.cell? ⟨b', k' + 3, none⟩ = some e0) (m4 : w.cell? ⟨b', k' + 4, none⟩ = some e0) (m5 : w.cell? ⟨b', k' + 5, none⟩ = some e0) (m6 : w.cell? ⟨b', k' + 6, none⟩ = some (.slice none 0 0)) :
 Calls Tryz.prog 205 #[.pointer (some ⟨b, k, none⟩), .pointer (some ⟨b', k', none⟩)] w (RetI w (ordQ x y)) := by
 have hn : ordI (rankI 1) (rankI 1) = 0 := rfl
 have C : Hid (∀ w, Calls Tryz.prog 170 #[.agg #[.int .i64 1, .string (nt x), .string (dt x), e0, e0, e0, .slice none 0 0], .agg #[.int .i64 1, .string (nt y), .string (dt y), e0, e0, e0, .slice none 0 0]] w (RetI w (ordQ x y))) := fun w => cmpNumP d hd x y w hx hy
 clear hx hy
 unfold e0 at *
 go_enter Tryz.func205, Tryz.ntmps205
 go_wp2_with fail
 go_quiet ((first | (go_at_call 214; exact quiet_same (rankP _ _)) | (go_at_call 188; exact quiet_same (cmpAny _ _ _))))
 go_wp2_with fail
 have Q : Below w.heap.size w (w.drewN nq) := ⟨rfl, rfl, rfl, Nat.le_refl _, fun _ _ => rfl⟩
 replace Q := qh9 Q
 change (w.drewN nq).cell? _ = _ at l0 m0 l1 m1 l2 m2 l3 m3 l4 m4 l5 m5 l6 m6
 clear hn
 generalize w.drewN nq = w1 at l0 m0 l1 m1 l2 m2 l3 m3 l4 m4 l5 m5 l6 m6 Q ⊢
 go_still_tail 6, (by kernel_rfl)
 change wpList _ _ _ _ _ w1.drew
 have Q2 := Q.out.drew
 clear l0 m0 l1 m1 l2 m2 l3 m3 l4 m4 l5 m5 l6 m6
 generalize w1.drew = w2 at Q2 ⊢
 go_wp2_with fail
 refine (C.out w2).mono ?_
 rintro e w3 ⟨rfl, hb⟩
 have Q3 := qh9 (Q2.trans (hb.mono Q2.size))
 clear hb Q2
 go_wp2
 go_ret
 exact ⟨rfl, Q3.out⟩

theorem cmpFieldsP (d : Nat) (hd : d ≤ 1000) (a a' : Ob) (b k b' k' : Nat) (p p' : Value) (w : World) (S : Nat → Prop) (ha : a.bd d) (ha' : a'.bd d) (h : At w S a b k p) (h' : At w S a' b' k' p') :
 Calls Tryz.prog 205 #[.pointer (some ⟨b, k, none⟩), .pointer (some ⟨b', k', none⟩)] w (RetI w (ordF a a')) := by
 obtain ⟨x0, x1, x2, x3, x4, x5, e, l0, l1, l2, l3, l4, l5, l6⟩ := h.cells
 obtain ⟨y0, y1, y2, y3, y4, y5, e', m0, m1, m2, m3, m4, m5, m6⟩ := h'.cells
 rw [cellsO_f] at e e'
 simp only [List.cons.injEq, and_true] at e e'
 obtain ⟨rfl, rfl, rfl, rfl, rfl, rfl⟩ := e
 obtain ⟨rfl, rfl, rfl, rfl, rfl, rfl⟩ := e'
 by_cases hr : a.rank = a'.rank
 · cases a with
   | num q =>
    cases a' with
    | num q' =>
     obtain rfl := h.2.2.flat rfl
     obtain rfl := h'.2.2.flat rfl
     exact cmpF_num d hd q q' ha ha' b k b' k' w l0 l1 l2 l3 l4 l5 l6 m0 m1 m2 m3 m4 m5 m6
    | _ => simp [Ob.rank] at hr
   | str s =>
    cases a' with
    | str s' =>
     have h := cmpF_str b k b' k' w (BA s) (BA s') l0 m0 l5 m5
     rw [LA_BA, LA_BA] at h
     exact h
    | _ => simp [Ob.rank] at hr
   | sym s t =>
    cases a' with
    | sym s' t' =>
     have h := cmpF_sym b k b' k' w (BA s) (BA t) (BA s') (BA t') l0 m0 l3 m3 l4 m4
     rw [LA_BA, LA_BA, LA_BA, LA_BA] at h
     exact h
    | _ => simp [Ob.rank] at hr
   | cons x y =>
    cases a' with
    | cons x' y' => exact cmpF_cons b k b' k' w l0 m0
    | _ => simp [Ob.rank] at hr
 · obtain ⟨h1, h2⟩ := ordF_ne hr
   rw [← h1]
   exact cmpF_ne b k b' k' w _ _ (kindI a) (kindI a') h2 l0 m0
def CmpAt (w : World) (g : Nat) (x : Bool) (k : Nat) : Prop := w.heap[g]? = some (.cells #[.bool x, .int .i64 k, .map none] 126 (0, 0))
def Run (w wr : World) (g : Nat) (x : Bool) (lo hi : Nat) : Prop := w.grownBy wr (some g) ∧ ∃ k, CmpAt wr g x k ∧ lo ≤ k ∧ k ≤ hi
theorem CmpAt.lt {w : World} {g : Nat} {x : Bool} {k : Nat} (h : CmpAt w g x k) : g < w.heap.size := by
 unfold CmpAt at h
 rcases Nat.lt_or_ge g w.heap.size with hlt | hge
 · exact hlt
 · rw [Array.getElem?_eq_none hge] at h; cases h
theorem CmpAt.c0 {w : World} {g : Nat} {x : Bool} {k : Nat} (h : CmpAt w g x k) : w.cell? ⟨g, 0, none⟩ = some (.bool x) := by rw [cell_of_row _ _ _ _ _ _ h]; rfl
theorem CmpAt.c1 {w : World} {g : Nat} {x : Bool} {k : Nat} (h : CmpAt w g x k) : w.cell? ⟨g, 1, none⟩ = some (.int .i64 k) := by rw [cell_of_row _ _ _ _ _ _ h]; rfl
theorem CmpAt.f1 {w : World} {g : Nat} {x : Bool} {k : Nat} (h : CmpAt w g x k) : w.frozen? ⟨g, 1, none⟩ = false := by
 unfold CmpAt at h
 simp [World.frozen?, h]
theorem CmpAt.set {w : World} {g : Nat} {x : Bool} {k : Nat} (h : CmpAt w g x k) (k' : Nat) : CmpAt (w.setCell ⟨g, 1, none⟩ (.int .i64 (k' : Nat))) g x k' := by
 unfold CmpAt at h ⊢
 simp [World.setCell, Array.getElem?_modify, h]
theorem Run.start {w : World} {g : Nat} {x : Bool} {k : Nat} (h : CmpAt w g x k) : Run w w g x k k := ⟨⟨rfl, rfl, rfl, Nat.le_refl _, fun _ _ _ => rfl⟩, k, h, Nat.le_refl _, Nat.le_refl _⟩
theorem Run.below {w wr w' : World} {g : Nat} {x : Bool} {lo hi : Nat} (h : Run w wr g x lo hi) (hb : Below wr.heap.size wr w') : Run w w' g x lo hi := by
 obtain ⟨hg, k, hc, h1, h2⟩ := h
 exact ⟨⟨hb.os.trans hg.os, hb.tape.trans hg.tape, hb.output.trans hg.output, Nat.le_trans hg.size hb.size, fun i hi hn => (hb.block i (Nat.lt_of_lt_of_le hi hg.size)).trans (hg.block i hi hn)⟩, k, (hb.block g hc.lt).trans hc, h1, h2⟩
theorem Run.drewN {w wr : World} {g : Nat} {x : Bool} {lo hi : Nat} (h : Run w wr g x lo hi) (n : Nat) : Run w (wr.drewN n) g x lo hi := h.below ⟨rfl, rfl, rfl, Nat.le_refl _, fun _ _ => rfl⟩
theorem Run.drew {w wr : World} {g : Nat} {x : Bool} {lo hi : Nat} (h : Run w wr g x lo hi) : Run w wr.drew g x lo hi := h.below ⟨rfl, rfl, rfl, Nat.le_refl _, fun _ _ => rfl⟩
theorem Run.more {w wr : World} {g : Nat} {x : Bool} {lo hi hi' : Nat} (h : Run w wr g x lo hi) (hh : hi ≤ hi') : Run w wr g x lo hi' := by
 obtain ⟨hg, k, hc, h1, h2⟩ := h
 exact ⟨hg, k, hc, h1, Nat.le_trans h2 hh⟩
theorem Run.trans {w wr w' : World} {g : Nat} {x : Bool} {lo hi' k : Nat} (h : w.grownBy wr (some g)) (hk : lo ≤ k) (h' : Run wr w' g x k hi') : Run w w' g x lo hi' := by
 obtain ⟨hg, k', hc, h1, h2⟩ := h'
 refine ⟨⟨hg.os.trans h.os, hg.tape.trans h.tape, hg.output.trans h.output, Nat.le_trans h.size hg.size, fun i hi hn => (hg.block i (Nat.lt_of_lt_of_le hi h.size) hn).trans (h.block i hi hn)⟩, k', hc, by omega, h2⟩
theorem Run.set {w wr : World} {g : Nat} {x : Bool} {lo k : Nat} (h : w.grownBy wr (some g)) (hc : CmpAt wr g x k) (hlo : lo ≤ k) : Run w (wr.setCell ⟨g, 1, none⟩ (.int .i64 ((k + 1 : Nat) : Int))) g x lo (k + 1) := by
 refine ⟨⟨h.os, h.tape, h.output, by simpa [World.setCell] using h.size, fun i hi hn => ?_⟩, k + 1, hc.set (k + 1), by omega, Nat.le_refl _⟩
 exact (Below.heap_setCell wr ⟨g, 1, none⟩ _ i (fun e => hn (by rw [e]))).trans (h.block i hi hn)
theorem At.run {w wr : World} {S : Nat → Prop} {g : Nat} {x : Bool} {lo hi : Nat} {o : Ob} {b k : Nat} {p : Value} (h : At w S o b k p) (hS : In S w) (hg : ¬ S g) (r : Run w wr g x lo hi) : At wr S o b k p :=
 h.keep (fun _ h => h) fun q hq => r.1.block q (hS q hq) (fun e => hg (by injection e with e; rwa [e] at hq))

theorem owp_ne {x : Bool} {a b : Ob} (h : owp x a b ≠ 0) : ordX x a b = owp x a b := by
 unfold owp at h ⊢
 split
 · rename_i hc; rw [if_pos hc] at h; exact absurd rfl h
 · rfl
theorem owp_eq {x : Bool} {a b : Ob} (h : owp x a b = 0) : a = b ∧ a.isCons = false ∨ a.isCons = true ∧ b.isCons = true := by
 unfold owp at h
 split at h
 · rename_i hc
   right
   simpa using hc
 · rename_i hc
   have e := (ordX_zero x a b).1 h
   subst e
   left
   refine ⟨rfl, ?_⟩
   cases hh : a.isCons with
   | false => rfl
   | true => exact absurd (by rw [hh]; rfl) hc

set_option maxHeartbeats 4000000 in
set_option maxRecDepth 100000 in
theorem owpP (d : Nat) (hd : d ≤ 1000) (a a' : Ob) (b k b' k' : Nat) (p p' : Value) (w : World) (S : Nat → Prop) (ha : a.bd d) (ha' : a'.bd d) (h : At w S a b k p) (h' : At w S a' b' k' p') (g : Nat) (x : Bool) (hc : w.cell? ⟨g, 0, none⟩ = some (.bool x)) :
 Calls Tryz.prog 187 #[.pointer (some ⟨g, 0, none⟩), .pointer (some ⟨b, k, none⟩), .pointer (some ⟨b', k', none⟩)] w (RetI w (owp x a a')) := by
 cases x with
 | false =>
  have call := qh9 (cmpFieldsP d hd a a' b k b' k' p p' w S ha ha' h h')
  have hr : Hid (ordF a a' = owp false a a') := rfl
  clear h h' ha ha'
  go_enter Tryz.func187, Tryz.ntmps187
  go_wp2_with fail
  refine call.out.mono ?_
  rintro e w' ⟨rfl, hb⟩
  have HB := qh9 hb
  clear hb
  go_wp2
  go_ret
  exact ⟨ret_int hr.out, HB.out⟩
 | true =>
  have call := qh9 (sameP a a' b k b' k' p p' w S h h')
  have hr : Hid (owp true a a' = if a.same a' then 0 else 1) := by
   show _ = _
   unfold owp Ob.same ordX eqI
   cases a.isCons && a'.isCons <;> simp
  clear h h' ha ha'
  rw [hr.out]
  generalize a.same a' = r at call ⊢
  cases r
  · go_enter Tryz.func187, Tryz.ntmps187
    go_wp2_with fail
    refine call.out.mono ?_
    intro e w' hq
    obtain ⟨rfl, hb⟩ := hq.below
    have HB := qh9 hb
    clear hb hq
    go_wp2
    go_ret
    exact ⟨rfl, HB.out⟩
  · go_enter Tryz.func187, Tryz.ntmps187
    go_wp2_with fail
    refine call.out.mono ?_
    intro e w' hq
    obtain ⟨rfl, hb⟩ := hq.below
    have HB := qh9 hb
    clear hb hq
    go_wp2
    go_ret
    exact ⟨rfl, HB.out⟩

set_option maxHeartbeats 4000000 in
set_option maxRecDepth 100000 in
theorem settled0 (g : Nat) (w : World) :
 Calls Tryz.prog 189 #[.pointer (some ⟨g, 0, none⟩), .slice none 0 0, .slice none 0 0] w (QuietV w (.bool true)) := by
 go_enter Tryz.func189, Tryz.ntmps189
 go_wp2_with fail
 go_quiet (fail)
 go_wp2
 go_ret
 exact ⟨rfl, _, rfl⟩
set_option maxHeartbeats 4000000 in
set_option maxRecDepth 100000 in
theorem settledSame (g b o c c' : Nat) (w : World) :
 Calls Tryz.prog 189 #[.pointer (some ⟨g, 0, none⟩), .slice (some ⟨b, o, none⟩) 2 c, .slice (some ⟨b, o, none⟩) 2 c'] w (QuietV w (.bool true)) := by
 have e : (Tryz.prog.info? 27).map (fun i => decide (i.size ≠ 0)) = some true := by kernel_rfl
 obtain ⟨j, hj⟩ : ∃ j, Tryz.prog.info? 27 = some j := by
  generalize Tryz.prog.info? 27 = i at e
  cases i with
  | none => cases e
  | some j => exact ⟨j, rfl⟩
 have he : ∀ w, (binOp .eql 87 (.pointer (some ⟨b, o, none⟩)) (.pointer (some ⟨b, o, none⟩))).run Tryz.prog w = .ok (.bool true) w := fun w => run_eql_ptr_same w ⟨b, o, none⟩ Tryz.underlying87 hj
 clear e hj
 go_enter Tryz.func189, Tryz.ntmps189
 go_wp2_with fail
 go_quiet (fail)
 go_wp2
 go_ret
 exact ⟨rfl, _, rfl⟩
set_option maxHeartbeats 4000000 in
set_option maxRecDepth 100000 in
theorem settledOther (g b o c b' o' c' : Nat) (w0 w : World) (x : Bool) (lo hi : Nat) (he : ∀ n, (binOp .eql 87 (.pointer (some ⟨b, o, none⟩)) (.pointer (some ⟨b', o', none⟩))).run Tryz.prog (w.drewN n) = .ok (.bool false) (w.drewN n)) (hr : Run w0 w g x lo hi) (hh : hi + 1 ≤ 3000) :
 Calls Tryz.prog 189 #[.pointer (some ⟨g, 0, none⟩), .slice (some ⟨b, o, none⟩) 2 c, .slice (some ⟨b', o', none⟩) 2 c'] w (fun e w' => e = .returned (.bool false) ∧ Run w0 w' g x lo (hi + 1)) := by
 obtain ⟨hg, k, hc, h1, h2⟩ := hr
 have c1 := hc.c1
 have f1 := hc.f1
 have hk : (k : Int) + 1 ≤ 3000 := by omega
 have hk0 : (k : Int) ≤ 3000 := by omega
 have R : Hid (∀ n, Run w0 ((w.drewN n).setCell ⟨g, 1, none⟩ (.int .i64 ((k + 1 : Nat) : Int))) g x lo (hi + 1)) := fun n =>
  (Run.set (wr := w.drewN n) (Run.drewN (show Run w0 w g x lo k from ⟨hg, k, hc, h1, Nat.le_refl _⟩) n).1 hc h1).more (by omega)
 clear hc hg
 go_enter Tryz.func189, Tryz.ntmps189
 go_wp2_with fail
 go_quiet (fail)
 go_wp2
 go_ret
 exact ⟨rfl, R.out _⟩
theorem ptr_ne {w : World} {b k b' k' : Nat} (h : Plain w b) (h' : Plain w b') (hne : ¬ (b = b' ∧ k = k')) :
 (binOp .eql 87 (.pointer (some ⟨b, k, none⟩)) (.pointer (some ⟨b', k', none⟩))).run Tryz.prog w = .ok (.bool false) w := by
 obtain ⟨_, _, h1⟩ := h
 obtain ⟨_, _, h2⟩ := h'
 have e : (Tryz.prog.info? 27).map (fun i => decide (i.size ≠ 0)) = some true := by kernel_rfl
 obtain ⟨j, hj, hs⟩ : ∃ j, Tryz.prog.info? 27 = some j ∧ j.size ≠ 0 := by
  generalize Tryz.prog.info? 27 = i at e
  cases i with
  | none => cases e
  | some j => exact ⟨j, rfl, by simpa using e⟩
 clear e
 exact run_eql_ptr_other w Tryz.underlying87 hj hs (fun e => by
  injection e with e1 e2
  exact hne ⟨e1, e2⟩) h1 h2
def RetC (w : World) (g : Nat) (x : Bool) (k m : Nat) (r : Int) (e : Ending) (w' : World) : Prop := e = .returned (.int .i64 r) ∧ Run w w' g x k (k + m)
def OrdAt (w : World) (S : Nat → Prop) (x : Bool) (d : Nat) (y y' : Ob) (b o b' o' : Nat) (r : Int) : Prop :=
 (∃ p, At w S y b o p) ∧ (∃ p, At w S y' b' o' p) ∧ y.bd d ∧ y'.bd d ∧ ordX x y y' = r

set_option maxHeartbeats 8000000 in
set_option maxRecDepth 100000 in
theorem orderO (d : Nat) (hd : d ≤ 1000) : ∀ (N : Nat) (a a' : Ob) (b o b' o' : Nat) (p p' : Value) (w : World) (S : Nat → Prop) (g : Nat) (x : Bool) (k : Nat), a.nodes ≤ N → a.bd d → a'.bd d → At w S a b o p → At w S a' b' o' p' → In S w → ¬ S g → CmpAt w g x k → k + a.nodes ≤ 3000 →
 Calls Tryz.prog 163 #[.pointer (some ⟨g, 0, none⟩), .pointer (some ⟨b, o, none⟩), .pointer (some ⟨b', o', none⟩)] w (RetC w g x k a.nodes (ordX x a a')) := by
 intro N
 induction N with
 | zero => intro a a' b o b' o' p p' w S g x k hN; have := a.nodes_pos; omega
 | succ N IH =>
  intro a a' b o b' o' p p' w S g x k hN ha ha' hA hA' hS hg hc hk
  have pos := a.nodes_pos
  have IH' := qh9 IH
  have HS := qh9 hS
  have HG := qh9 hg
  clear IH hS hg
  obtain ⟨r, hr⟩ : ∃ r, ordX x a a' = r := ⟨_, rfl⟩
  obtain ⟨m, hm⟩ : ∃ m, a.nodes = m := ⟨_, rfl⟩
  rw [hr]
  rw [hm] at hN hk pos ⊢
  have h0 : Hid (OrdAt w S x d a a' b o b' o' r) := ⟨⟨p, hA⟩, ⟨p', hA'⟩, ha, ha', hr⟩
  have r0 : Hid (Run w w g x k k) := Run.start hc
  have hm' : a.nodes ≤ m := by omega
  clear hA hA' ha ha' hr hm hc
  go_enter Tryz.func163, Tryz.ntmps163
  go_wp2_with fail
  go_loopg [1, 2] m (fun n u v wr => ∃ (y y' : Ob) (b o b' o' hi : Nat), u = .pointer (some ⟨b, o, none⟩) ∧ v = .pointer (some ⟨b', o', none⟩) ∧ y.nodes ≤ n ∧ n ≤ m ∧ hi + y.nodes ≤ k + m ∧ Hid (OrdAt w S x d y y' b o b' o' r) ∧ Hid (Run w wr g x k hi))
  case atStart => exact ⟨a, a', b, o, b', o', k, rfl, rfl, hm', Nat.le_refl _, by omega, h0, r0⟩
  case round =>
   clear h0 r0
   obtain ⟨y, y', b, o, b', o', hi, rfl, rfl, hyn, hnm, hhi, hE, hR⟩ := hrel
   obtain ⟨wo, rfl⟩ : ∃ wo : World, wo = wr := ⟨_, rfl⟩
   obtain ⟨⟨p, hA⟩, ⟨p', hA'⟩, hy, hy', hr⟩ := hE.out
   clear hE
   have posy := y.nodes_pos
   obtain ⟨_, k1, hck, _, _⟩ := hR.out
   have C1 := qh9 (owpP d hd y y' b o b' o' p p' wo S hy hy' (hA.run HS.out HG.out hR.out) (hA'.run HS.out HG.out hR.out) g x hck.c0)
   have L6 : Hid (∀ wd hi, Run w wd g x k hi → wd.cell? ⟨b, o + 6, none⟩ = some p ∧ wd.cell? ⟨b', o' + 6, none⟩ = some p') := fun wd hi hr => ⟨(hA.run HS.out HG.out hr).last, (hA'.run HS.out HG.out hr).last⟩
   clear hck
   by_cases h0 : owp x y y' = 0
   · rcases owp_eq h0 with ⟨heq, hf⟩ | ⟨hcy, hcy'⟩
     · obtain rfl := hA.2.2.flat hf
       obtain rfl := hA'.2.2.flat (by rw [← heq]; exact hf)
       have hr0 : Hid (r = 0) := by show r = 0; rw [← hr]; exact (ordX_zero x y y').2 heq
       have hn : (owp x y y' != 0) = false := by rw [h0]; rfl
       have hn2 : ordI (0 : Int) 0 = 0 := rfl
       have hfin : k + m ≥ hi := by omega
       clear hA hA' hr heq hf h0 hy hy'
       go_wp2_with fail
       refine C1.out.mono ?_
       rintro e w1 ⟨rfl, hb1⟩
       have R1 := qh9 (hR.out.below hb1)
       obtain ⟨l6, m6⟩ := L6.out w1 hi R1.out
       clear hb1 hR
       go_wp2_with fail
       go_quiet ((go_at_call 188; exact quiet_same (cmpAny _ _ _)))
       have R2 := qh9 (R1.out.drewN nq)
       change (w1.drewN nq).cell? _ = _ at l6 m6
       generalize w1.drewN nq = w2 at l6 m6 R2 ⊢
       clear R1
       go_wp2_with fail
       go_still_tail 9, (by kernel_rfl)
       change wpList _ _ _ _ _ w2.drew
       have R3 := qh9 R2.out.drew
       clear l6 m6 R2
       generalize w2.drew = w3 at R3 ⊢
       go_wp2_with fail
       refine (settled0 g w3).mono ?_
       intro e w4 hq
       obtain ⟨rfl, hb⟩ := hq.below
       have R4 := qh9 (R3.out.below hb)
       clear hq hb R3
       go_wp2
       go_ret
       exact ⟨ret_int hr0.out.symm, R4.out.more hfin⟩
     · cases y with
       | cons c e =>
        cases y' with
        | cons c' e' =>
         obtain ⟨bb, oo, cc, pc, pe, rfl, hcc, hC, hE⟩ := hA.2.2.parts
         obtain ⟨bb', oo', cc', pc', pe', rfl, hcc', hC', hE'⟩ := hA'.2.2.parts
         have hnn : (Ob.cons c e).nodes = 1 + c.nodes + e.nodes := rfl
         have posc := c.nodes_pos
         have pose := e.nodes_pos
         rw [ordX_cons] at hr
         have hn : (owp x (Ob.cons c e) (Ob.cons c' e') != 0) = false := by rw [h0]; rfl
         have hn2 : ordI (2 : Int) 2 = 0 := rfl
         have hfin : k + m ≥ hi := by omega
         have C3 : Hid (∀ wd, Run w wd g x k (hi + 1) → Calls Tryz.prog 163 #[.pointer (some ⟨g, 0, none⟩), .pointer (some ⟨bb, oo, none⟩), .pointer (some ⟨bb', oo', none⟩)] wd (fun e w' => e = .returned (.int .i64 (ordX x c c')) ∧ Run w w' g x k (hi + 1 + c.nodes))) := by
          intro wd hrun
          obtain ⟨hgr, k', hck, h1, h2⟩ := hrun
          have hrun : Run w wd g x k (hi + 1) := ⟨hgr, k', hck, h1, h2⟩
          refine (IH'.out c c' bb oo bb' oo' pc pc' wd S g x k' (by omega) hy.1 hy'.1 (hC.run HS.out HG.out hrun) (hC'.run HS.out HG.out hrun) (HS.out.later hgr.size) HG.out hck (by omega)).mono ?_
          rintro e w' ⟨he, hrun'⟩
          exact ⟨he, (Run.trans hgr h1 hrun').more (by omega)⟩
         have hlim : hi + 1 ≤ 3000 := by omega
         have hce : hi + 1 + c.nodes + e.nodes ≤ k + m := by omega
         have heg : e.nodes < gk := by omega
         have hem : e.nodes ≤ m := by omega
         have HE : Hid ((∃ p, At w S e bb (oo + 7) p) ∧ (∃ p, At w S e' bb' (oo' + 7) p) ∧ e.bd d ∧ e'.bd d) := ⟨⟨_, hE⟩, ⟨_, hE'⟩, hy.2, hy'.2⟩
         by_cases hsame : bb = bb' ∧ oo = oo'
         · obtain ⟨rfl, rfl⟩ := hsame
           have e1 := hC.inj hC'
           have e2 := hE.inj hE'
           have hr0 : Hid (r = 0) := by
            show r = 0
            rw [← hr, (ordX_zero x c c').2 e1, (ordX_zero x e e').2 e2]; rfl
           clear hA hA' hr h0 hy hy' hC hC' hE hE' hnn e1 e2 hcy hcy' C3 HE
           go_wp2_with fail
           refine C1.out.mono ?_
           rintro e w1 ⟨rfl, hb1⟩
           have R1 := qh9 (hR.out.below hb1)
           obtain ⟨l6, m6⟩ := L6.out w1 hi R1.out
           clear hb1 hR
           go_wp2_with fail
           go_quiet ((go_at_call 188; exact quiet_same (cmpAny _ _ _)))
           have R2 := qh9 (R1.out.drewN nq)
           change (w1.drewN nq).cell? _ = _ at l6 m6
           generalize w1.drewN nq = w2 at l6 m6 R2 ⊢
           clear R1
           go_wp2_with fail
           go_still_tail 9, (by kernel_rfl)
           change wpList _ _ _ _ _ w2.drew
           have R3 := qh9 R2.out.drew
           clear l6 m6 R2
           generalize w2.drew = w3 at R3 ⊢
           go_wp2_with fail
           refine (settledSame g bb oo cc cc' w3).mono ?_
           intro e w4 hq
           obtain ⟨rfl, hb⟩ := hq.below
           have R4 := qh9 (R3.out.below hb)
           clear hq hb R3
           go_wp2
           go_ret
           exact ⟨ret_int hr0.out.symm, R4.out.more hfin⟩
         · have C2 : Hid (∀ wd, Run w wd g x k hi → Calls Tryz.prog 189 #[.pointer (some ⟨g, 0, none⟩), .slice (some ⟨bb, oo, none⟩) 2 cc, .slice (some ⟨bb', oo', none⟩) 2 cc'] wd (fun e w' => e = .returned (.bool false) ∧ Run w w' g x k (hi + 1))) := by
            intro wd hrun
            exact settledOther g bb oo cc bb' oo' cc' w wd x k hi (fun n => ptr_ne (hC.run HS.out HG.out (hrun.drewN n)).1.2 (hC'.run HS.out HG.out (hrun.drewN n)).1.2 hsame) hrun hlim
           have HR := qh9 hr
           have hfin2 : hi + 1 + c.nodes ≤ k + m := by omega
           clear hA hA' hr h0 hy hy' hC hC' hE hE' hnn hcy hcy' hsame
           go_wp2_with fail
           refine C1.out.mono ?_
           rintro e' w1 ⟨rfl, hb1⟩
           have R1 := qh9 (hR.out.below hb1)
           obtain ⟨l6, m6⟩ := L6.out w1 hi R1.out
           clear hb1 hR
           go_wp2_with fail
           go_quiet ((go_at_call 188; exact quiet_same (cmpAny _ _ _)))
           have R2 := qh9 (R1.out.drewN nq)
           change (w1.drewN nq).cell? _ = _ at l6 m6
           generalize w1.drewN nq = w2 at l6 m6 R2 ⊢
           clear R1
           go_wp2_with fail
           go_still_tail 9, (by kernel_rfl)
           change wpList _ _ _ _ _ w2.drew
           have R3 := qh9 R2.out.drew
           clear l6 m6 R2
           generalize w2.drew = w3 at R3 ⊢
           go_wp2_with fail
           refine (C2.out w3 R3.out).mono ?_
           rintro e' w4 ⟨rfl, hr4⟩
           obtain ⟨l6, m6⟩ := L6.out w4 _ hr4
           have R4 : Hid (Run w w4 g x k (hi + 1 + 0 * c.nodes)) := hr4.more (by omega)
           clear hr4 R3 C2 C1
           go_wp2_with fail
           clear l6 m6
           go_loopw [50] (fun v wr => ∃ i : Nat, i ≤ 1 ∧ v = .int .i64 i ∧ Hid (Run w wr g x k (hi + 1 + i * c.nodes)) ∧ Hid (0 < i → ordX x c c' = 0)) (fun v _ => 1 - (intOf v).toNat)
           case atStart => exact ⟨0, by omega, rfl, R4, fun h => by omega⟩
           case round =>
            clear R4
            obtain ⟨i, hi1, rfl, R5, HO⟩ := hrel
            obtain ⟨w5, rfl⟩ : ∃ w5 : World, w5 = wr := ⟨_, rfl⟩
            obtain ⟨l6, m6⟩ := L6.out w5 _ R5.out
            by_cases hi0 : i = 0
            · subst hi0
              have R6 : Hid (Run w w5 g x k (hi + 1)) := R5.out.more (by omega)
              clear R5 hi1 HO
              go_wp2_with fail
              go_still_tail 13, (by kernel_rfl)
              change wpList _ _ _ _ _ w5.drew
              have R7 := qh9 R6.out.drew
              clear l6 m6 R6
              generalize w5.drew = w6 at R7 ⊢
              go_wp2_with fail
              refine (C3.out w6 R7.out).mono ?_
              rintro e' w7 ⟨rfl, hr7⟩
              have R8 := qh9 hr7
              clear hr7 R7
              by_cases hz : ordX x c c' = 0
              · have hzn : (ordX x c c' != 0) = false := by rw [hz]; rfl
                have HZ := qh9 hz
                clear hz
                go_wp2
                go_roundw
                case rel => exact ⟨1, Nat.le_refl _, rfl, R8.out.more (by omega), fun _ => HZ.out⟩
                case measure => simp [intOf]
              · have hzn : (ordX x c c' != 0) = true := by rw [bne_iff_ne]; exact hz
                have HZ : Hid (r = ordX x c c') := by show _ = _; rw [← HR.out]; unfold next; rw [if_neg hz]
                clear hz
                go_wp2
                go_ret
                exact ⟨ret_int HZ.out.symm, R8.out.more hfin2⟩
            · have hi2 : i = 1 := by omega
              subst hi2
              have R6 : Hid (Run w w5 g x k (hi + 1 + c.nodes)) := R5.out.more (by omega)
              have HZ : Hid (ordX x e e' = r) := by
               show _ = _
               rw [← HR.out]
               unfold next
               rw [if_pos (HO.out (by omega))]
              clear R5 hi1 HO hi0
              go_wp2_with fail
              go_quiet (fail)
              have R7 := qh9 (R6.out.drewN nq)
              clear l6 m6 R6
              generalize w5.drewN nq = w6 at R7 ⊢
              go_wp2
              go_roundg e.nodes
              case measure => exact heg
              case rel => exact ⟨e, e', bb, oo + 7, bb', oo' + 7, hi + 1 + c.nodes, rfl, rfl, Nat.le_refl _, hem, hce, ⟨HE.out.1, HE.out.2.1, HE.out.2.2.1, HE.out.2.2.2, HZ.out⟩, R7⟩
        | _ => simp [Ob.isCons] at hcy'
       | _ => simp [Ob.isCons] at hcy
   · have hr1 := qh9 ((owp_ne h0).symm.trans hr)
     have hn : (owp x y y' != 0) = true := by rw [bne_iff_ne]; exact h0
     have hfin : k + m ≥ hi := by omega
     clear hA hA' hr h0 hy hy' L6
     go_wp2_with fail
     refine C1.out.mono ?_
     rintro e w1 ⟨rfl, hb1⟩
     have R1 := qh9 (hR.out.below hb1)
     clear hb1 hR
     go_wp2
     go_ret
     exact ⟨ret_int hr1.out, R1.out.more hfin⟩
theorem three (a a' : Ob) (p p' : Value) (w : World) (S : Nat → Prop) (hS : In S w) (ha : Pair w S a p) (ha' : Pair w S a' p') (x : Bool) :
 ∃ W, W = ((w.alloc (.cells (cellsO a p).toArray 27)).alloc (.cells (cellsO a' p').toArray 27)).alloc (.cells #[.bool x, .int .i64 0, .map none] 126) ∧
  Below w.heap.size w W ∧ W.heap.size = w.heap.size + 3 ∧ At W (fun b => S b ∨ b = w.heap.size ∨ b = w.heap.size + 1) a w.heap.size 0 p ∧ At W (fun b => S b ∨ b = w.heap.size ∨ b = w.heap.size + 1) a' (w.heap.size + 1) 0 p' ∧ CmpAt W (w.heap.size + 2) x 0 := by
 refine ⟨_, rfl, ?_⟩
 have hb : Below w.heap.size w (((w.alloc (.cells (cellsO a p).toArray 27)).alloc (.cells (cellsO a' p').toArray 27)).alloc (.cells #[.bool x, .int .i64 0, .map none] 126)) :=
  Below.alloc (Below.alloc (Below.alloc (Below.refl _ _) (Nat.le_refl _) _) (by simp) _) (by simp; omega) _
 have h0 : (((w.alloc (.cells (cellsO a p).toArray 27)).alloc (.cells (cellsO a' p').toArray 27)).alloc (.cells #[.bool x, .int .i64 0, .map none] 126)).heap[w.heap.size]? = some (.cells (cellsO a p).toArray 27 (0, 0)) := by
  rw [Below.heap_alloc _ _ _ (by simp; omega)]; exact heap_alloc2_old w _ _
 have h1 : (((w.alloc (.cells (cellsO a p).toArray 27)).alloc (.cells (cellsO a' p').toArray 27)).alloc (.cells #[.bool x, .int .i64 0, .map none] 126)).heap[w.heap.size + 1]? = some (.cells (cellsO a' p').toArray 27 (0, 0)) := by
  rw [Below.heap_alloc _ _ _ (by simp)]; exact heap_alloc2_new w _ _
 refine ⟨hb, by simp, ⟨⟨.inr (.inl rfl), _, _, h0⟩, fun j u hj => ?_, (ha.below hS hb).more fun _ h => .inl h⟩, ⟨⟨.inr (.inr rfl), _, _, h1⟩, fun j u hj => ?_, (ha'.below hS hb).more fun _ h => .inl h⟩, heap_new_at (by simp)⟩
 · rw [Nat.zero_add, cell_of_row _ _ _ _ _ _ h0, ← hj]; simp
 · rw [Nat.zero_add, cell_of_row _ _ _ _ _ _ h1, ← hj]; simp
theorem orderTop (d : Nat) (hd : d ≤ 1000) (a a' : Ob) (p p' : Value) (w : World) (S : Nat → Prop) (hS : In S w) (ha : Pair w S a p) (ha' : Pair w S a' p') (hb : a.bd d) (hb' : a'.bd d) (hn : a.nodes ≤ 3000) (x : Bool) :
 Calls Tryz.prog 163 #[.pointer (some ⟨w.heap.size + 1 + 1, 0, none⟩), .pointer (some ⟨w.heap.size, 0, none⟩), .pointer (some ⟨w.heap.size + 1, 0, none⟩)] (((w.alloc (.cells (cellsO a p).toArray 27)).alloc (.cells (cellsO a' p').toArray 27)).alloc (.cells #[.bool x, .int .i64 0, .map none] 126))
  (fun e w' => e = .returned (.int .i64 (ordX x a a')) ∧ Below w.heap.size w w') := by
 obtain ⟨W, e, h1, h2, h3, h4, h5⟩ := three a a' p p' w S hS ha ha' x
 rw [← e]
 refine (orderO d hd a.nodes a a' w.heap.size 0 (w.heap.size + 1) 0 p p' W _ (w.heap.size + 2) x 0 (Nat.le_refl _) hb hb' h3 h4 (fun b hb => ?_) (fun h => ?_) h5 (by omega)).mono ?_
 · rcases hb with hb | rfl | rfl
   · have := hS b hb; omega
   · omega
   · omega
 · rcases h with h | h | h
   · have := hS _ h; omega
   · omega
   · omega
 · rintro e w' ⟨he, hr⟩
   exact ⟨he, hr.1.os.trans h1.os, hr.1.tape.trans h1.tape, hr.1.output.trans h1.output, Nat.le_trans h1.size hr.1.size, fun b hlt => (hr.1.block b (by omega) (fun e => by injection e with e; omega)).trans (h1.block b hlt)⟩
set_option maxHeartbeats 4000000 in
set_option maxRecDepth 100000 in
theorem compareP (d : Nat) (hd : d ≤ 1000) (a a' : Ob) (p p' : Value) (w : World) (S : Nat → Prop) (hS : In S w) (ha : Pair w S a p) (ha' : Pair w S a' p') (hb : a.bd d) (hb' : a'.bd d) (hn : a.nodes ≤ 3000) :
 Calls Tryz.prog 136 #[vO a p, vO a' p'] w (RetI w (ordO a a')) := by
 have call := qh9 (orderTop d hd a a' p p' w S hS ha ha' hb hb' hn false)
 obtain ⟨x0, x1, x2, x3, x4, x5, e⟩ := cells7 a p
 obtain ⟨y0, y1, y2, y3, y4, y5, e'⟩ := cells7 a' p'
 rw [e, e'] at call
 unfold vO
 rw [e, e']
 clear e e' ha ha' hb hb' hS hn
 go_enter Tryz.func136, Tryz.ntmps136
 go_wp2_with fail
 refine call.out.mono ?_
 rintro e w' ⟨rfl, hb⟩
 have HB := qh9 hb
 clear hb call
 go_wp2
 go_ret
 exact ⟨rfl, HB.out⟩
set_option maxHeartbeats 4000000 in
set_option maxRecDepth 100000 in
theorem equalP (d : Nat) (hd : d ≤ 1000) (a a' : Ob) (p p' : Value) (w : World) (S : Nat → Prop) (hS : In S w) (ha : Pair w S a p) (ha' : Pair w S a' p') (hb : a.bd d) (hb' : a'.bd d) (hn : a.nodes ≤ 3000) :
 Calls Tryz.prog 126 #[vO a p, vO a' p'] w (RetB w (decide (a = a'))) := by
 have call := qh9 (orderTop d hd a a' p p' w S hS ha ha' hb hb' hn true)
 obtain ⟨x0, x1, x2, x3, x4, x5, e⟩ := cells7 a p
 obtain ⟨y0, y1, y2, y3, y4, y5, e'⟩ := cells7 a' p'
 rw [e, e'] at call
 unfold vO
 rw [e, e']
 have hr : Hid ((eqI a a' == 0) = decide (a = a')) := by
  show _ = _
  unfold eqI
  by_cases h : a = a' <;> simp [h]
 have hx : Hid (ordX true a a' = eqI a a') := rfl
 rw [hx.out] at call
 rw [← hr.out]
 generalize eqI a a' = q at call ⊢
 clear hr hx e e' ha ha' hb hb' hS hn
 go_enter Tryz.func126, Tryz.ntmps126
 go_wp2_with fail
 refine call.out.mono ?_
 rintro e w' ⟨rfl, hb⟩
 have HB := qh9 hb
 clear hb call
 go_wp2
 go_ret
 exact ⟨rfl, HB.out⟩
def vQ (q : Rat) : Value := .agg #[.int .i64 1, .string (nt q), .string (dt q), .string ⟨#[]⟩, .string ⟨#[]⟩, .string ⟨#[]⟩, .slice none 0 0]
theorem vQ_eq (q : Rat) : vO (.num q) (.slice none 0 0) = vQ q := rfl
def RetN (w : World) (q : Rat) (e : Ending) (w' : World) : Prop := e = .returned (vQ q) ∧ Below w.heap.size w w'
theorem RetO.num {w w' : World} {S : Nat → Prop} {q : Rat} {e : Ending} (h : RetO w S (.num q) e w') : RetN w q e w' := by
 obtain ⟨p, rfl, hp, hb⟩ := h
 have e : p = .slice none 0 0 := hp
 subst e
 exact ⟨rfl, hb⟩
theorem ratN (s t : ByteArray) (w : World) (hs : s.size ≤ 400000000) (ht : t.size ≤ 400000000) : Calls Tryz.prog 165 #[.string s, .string t] w (RetN w (quo (LA s) (LA t))) :=
 (ratP s t w (fun _ => False) (fun _ h => h.elim) hs ht).mono fun _ _ h => h.num
theorem ratRN (s t : ByteArray) (w : World) (hs : s.size ≤ 300000000) (ht : t.size ≤ 300000000) : Calls Tryz.prog 20 #[.string s, .string t] w (RetN w (quo (LA s) (LA t))) :=
 (ratO s t w (fun _ => False) (fun _ h => h.elim) hs ht).mono fun _ _ h => h.num
theorem i64_small {n : Int} (h : -1000000 ≤ n ∧ n ≤ 1000000) : Hid (I64 n) := by show I64 n; unfold I64; omega
theorem retN {fn : Func} {q : Tmp} {w0 w : World} {tmps : Array Value} {g : Nat} {x : Rat} {t : TypeId} {fr : Nat × Nat} {cs : Array Value}
 (h : fn.results = #[.cell q 27]) (hq : tmps.getD q undef = .pointer (some ⟨g, 0, none⟩)) (hg : w.heap[g]? = some (.cells cs t fr)) (hc : Value.agg cs = vQ x) (hb : Below w0.heap.size w0 w) :
 bodyPost Tryz.prog fn (RetN w0 x) Exit.ret ⟨tmps, []⟩ w := by
 have hs : cs.size = 7 := by unfold vQ at hc; injection hc with hc; rw [hc]; rfl
 exact retO h hq hg hs ⟨by rw [hc], hb⟩
theorem storeN {ops : Array Oper} {rest : List Oper} {o : Oper} {a : Act} {w : World} {Q : Exit → Act → World → Prop} (hgd : o.guard = none) (x y : Operand) (ho : o.op = .store 27 x y)
 (g : Nat) (q : Rat) (hx : a.eval x = .pointer (some ⟨g, 0, none⟩)) (hy : a.eval y = vQ q)
 (t : TypeId) (old : Array Value) (hg : w.heap[g]? = some (.cells old t (0, 0))) (hold : old.size = 7)
 (h : wpList Tryz.prog ops Q rest (a.put o.dst undef) (w.setRow g #[.int .i64 1, .string (nt q), .string (dt q), .string ⟨#[]⟩, .string ⟨#[]⟩, .string ⟨#[]⟩, .slice none 0 0])) : wpList Tryz.prog ops Q (o :: rest) a w :=
 storeO hgd x y ho g _ hx hy t old hg hold (by simp) (by simp [Value.oneCell']) h
theorem setRow7 {w : World} {g : Nat} {old : Array Value} {t : TypeId} (h : w.heap[g]? = some (.cells old t (0, 0))) (hs : old.size = 7) (a0 a1 a2 a3 a4 a5 a6 : Value) :
 ((((((w.setCell ⟨g, 0, none⟩ a0).setCell ⟨g, 1, none⟩ a1).setCell ⟨g, 2, none⟩ a2).setCell ⟨g, 3, none⟩ a3).setCell ⟨g, 4, none⟩ a4).setCell ⟨g, 5, none⟩ a5).setCell ⟨g, 6, none⟩ a6 = w.setRow g #[a0, a1, a2, a3, a4, a5, a6] := by
 obtain ⟨old⟩ := old
 match old, hs with
 | [o0, o1, o2, o3, o4, o5, o6], _ =>
  rw [setCell_eq_setRow _ g 0 _ t _ a0 h]
  have h1 := setRow_heap w g _ (#[o0, o1, o2, o3, o4, o5, o6].setIfInBounds 0 a0) _ _ h
  rw [setCell_eq_setRow _ g 1 _ t _ a1 h1, setRow_setRow]
  have h2 := setRow_heap w g _ ((#[o0, o1, o2, o3, o4, o5, o6].setIfInBounds 0 a0).setIfInBounds 1 a1) _ _ h
  rw [setCell_eq_setRow _ g 2 _ t _ a2 h2, setRow_setRow]
  have h3 := setRow_heap w g _ (((#[o0, o1, o2, o3, o4, o5, o6].setIfInBounds 0 a0).setIfInBounds 1 a1).setIfInBounds 2 a2) _ _ h
  rw [setCell_eq_setRow _ g 3 _ t _ a3 h3, setRow_setRow]
  have h4 := setRow_heap w g _ ((((#[o0, o1, o2, o3, o4, o5, o6].setIfInBounds 0 a0).setIfInBounds 1 a1).setIfInBounds 2 a2).setIfInBounds 3 a3) _ _ h
  rw [setCell_eq_setRow _ g 4 _ t _ a4 h4, setRow_setRow]
  have h5 := setRow_heap w g _ (((((#[o0, o1, o2, o3, o4, o5, o6].setIfInBounds 0 a0).setIfInBounds 1 a1).setIfInBounds 2 a2).setIfInBounds 3 a3).setIfInBounds 4 a4) _ _ h
  rw [setCell_eq_setRow _ g 5 _ t _ a5 h5, setRow_setRow]
  have h6 := setRow_heap w g _ ((((((#[o0, o1, o2, o3, o4, o5, o6].setIfInBounds 0 a0).setIfInBounds 1 a1).setIfInBounds 2 a2).setIfInBounds 3 a3).setIfInBounds 4 a4).setIfInBounds 5 a5) _ _ h
  rw [setCell_eq_setRow _ g 6 _ t _ a6 h6, setRow_setRow]
  rfl
theorem row7 {w : World} {g : Nat} {t : TypeId} {a0 a1 a2 a3 a4 a5 a6 : Value} (h : w.heap[g]? = some (.cells #[a0, a1, a2, a3, a4, a5, a6] t (0, 0))) :
 (w.cell? ⟨g, 0, none⟩ = some a0 ∧ w.cell? ⟨g, 1, none⟩ = some a1 ∧ w.cell? ⟨g, 2, none⟩ = some a2 ∧ w.cell? ⟨g, 3, none⟩ = some a3 ∧ w.cell? ⟨g, 4, none⟩ = some a4 ∧ w.cell? ⟨g, 5, none⟩ = some a5 ∧ w.cell? ⟨g, 6, none⟩ = some a6) ∧
   (∀ j, w.frozen? ⟨g, j, none⟩ = false) := by
 refine ⟨⟨?_, ?_, ?_, ?_, ?_, ?_, ?_⟩, fun j => by simp [World.frozen?, h]⟩
 all_goals (rw [cell_of_row _ _ _ _ _ _ h]; rfl)

set_option maxHeartbeats 1000000 in
set_option maxRecDepth 100000 in
theorem asNumP (a : Ob) (p : Value) (w : World) (hp : ∀ q, a = .num q → p = .slice none 0 0) (ht : Tab w) :
 Calls Tryz.prog 164 #[vO a p] w (RetN w a.fix) := by
 have HT := qh9 ht
 clear ht
 have hz : Hid (∀ w, Tab w → Calls Tryz.prog 137 #[.int .i64 0] w (RetN w 0)) := fun w ht =>
  (intP 0 w (fun _ => False) (i64_small (by omega)) ht).mono fun _ _ h => RetO.num h
 by_cases hk : (fO a).1 = 1
 · cases a with
   | num q =>
    obtain rfl := hp q rfl
    rw [vQ_eq]
    show Calls _ _ _ _ (RetN w q)
    unfold vQ
    clear hk hp hz
    go_enter Tryz.func164, Tryz.ntmps164
    go_wp2_with fail
    exact retN rfl rfl (heap_alloc2_new w _ _) rfl (Below.alloc (Below.alloc (Below.refl _ _) (Nat.le_refl _) _) (by simp) _)
   | _ => simp [fO] at hk
 · have hf : a.fix = 0 := by cases a <;> first | rfl | (exact absurd rfl hk)
   rw [hf]
   have e := cellsO_f a p
   unfold vO
   rw [e]
   have hn : ((fO a).1 != 1) = true := by rw [bne_iff_ne]; exact hk
   clear e hf hk hp
   generalize (fO a).1 = k at hn ⊢
   generalize (fO a).2 = y at ⊢
   obtain ⟨s1, s2, s3, s4, s5⟩ := y
   go_enter Tryz.func164, Tryz.ntmps164
   go_wp2_with fail
   have hb0 : Below w.heap.size w ((w.alloc (.cells #[.int .i64 k, .string s1, .string s2, .string s3, .string s4, .string s5, p] 27)).alloc (.cells #[.int .i64 0, .string ⟨#[]⟩, .string ⟨#[]⟩, .string ⟨#[]⟩, .string ⟨#[]⟩, .string ⟨#[]⟩, .slice none 0 0] 27)) := Below.alloc (Below.alloc (Below.refl _ _) (Nat.le_refl _) _) (by simp) _
   have hg0 := heap_alloc2_new w (.cells #[.int .i64 k, .string s1, .string s2, .string s3, .string s4, .string s5, p] 27) (.cells #[.int .i64 0, .string ⟨#[]⟩, .string ⟨#[]⟩, .string ⟨#[]⟩, .string ⟨#[]⟩, .string ⟨#[]⟩, .slice none 0 0] 27)
   refine (hz.out _ (HT.out.below hb0)).mono ?_
   rintro e w1 ⟨rfl, hb1⟩
   have hg1 := qh9 ((hb1.block (w.heap.size + 1) (by simp)).trans hg0)
   have hbw := qh9 (hb0.trans (hb1.mono hb0.size))
   clear hb0 hb1 hg0
   go_wp2_with (refine storeN rfl (.tmp 2) (.tmp 6) rfl (w.heap.size + 1) 0 rfl rfl _ _ hg1.out rfl ?_)
   exact retN (q := 2) (g := w.heap.size + 1) rfl rfl (setRow_heap _ _ _ _ _ _ hg1.out) rfl (below_setRowO hbw.out (by omega) _)
abbrev row (a0 a1 a2 a3 a4 a5 a6 : Value) : Array Value := #[a0, a1, a2, a3, a4, a5, a6]
structure Three (w W : World) (x y : Array Value) : Prop where
 b0 : W.heap[w.heap.size]? = some (.cells x 27 (0, 0))
 b1 : W.heap[w.heap.size + 1]? = some (.cells y 27 (0, 0))
 b2 : ∃ z : Array Value, z.size = 7 ∧ W.heap[w.heap.size + 1 + 1]? = some (.cells z 27 (0, 0))
 bel : Below w.heap.size w W
 size : w.heap.size + 3 ≤ W.heap.size
theorem Three.new (w : World) (x y z : Array Value) (hz : z.size = 7) : Three w (((w.alloc (.cells x 27)).alloc (.cells y 27)).alloc (.cells z 27)) x y := by
 refine ⟨?_, ?_, ⟨z, hz, heap_new_at (by simp)⟩, Below.alloc (Below.alloc (Below.alloc (Below.refl _ _) (Nat.le_refl _) _) (by simp) _) (by simp; omega) _, by simp⟩
 · rw [Below.heap_alloc _ _ _ (by simp; omega)]; exact heap_alloc2_old w _ _
 · rw [Below.heap_alloc _ _ _ (by simp)]; exact heap_alloc2_new w _ _
theorem Three.below {w W W' : World} {x y : Array Value} (h : Three w W x y) (hb : Below W.heap.size W W') : Three w W' x y := by
 have := h.size
 obtain ⟨z, hz, h2⟩ := h.b2
 exact ⟨(hb.block _ (by omega)).trans h.b0, (hb.block _ (by omega)).trans h.b1, ⟨z, hz, (hb.block _ (by omega)).trans h2⟩, h.bel.trans (hb.mono (by omega)), Nat.le_trans h.size hb.size⟩
theorem Three.set {w W : World} {x y : Array Value} (h : Three w W x y) (hx : x.size = 7) (hy : y.size = 7) (a0 a1 a2 a3 a4 a5 a6 b0 b1 b2 b3 b4 b5 b6 : Value) :
 Three w (((((((((((((((W.setCell ⟨w.heap.size, 0, none⟩ a0).setCell ⟨w.heap.size, 1, none⟩ a1).setCell ⟨w.heap.size, 2, none⟩ a2).setCell ⟨w.heap.size, 3, none⟩ a3).setCell ⟨w.heap.size, 4, none⟩ a4).setCell ⟨w.heap.size, 5, none⟩ a5).setCell ⟨w.heap.size, 6, none⟩ a6).setCell
  ⟨w.heap.size + 1, 0, none⟩ b0).setCell ⟨w.heap.size + 1, 1, none⟩ b1).setCell ⟨w.heap.size + 1, 2, none⟩ b2).setCell ⟨w.heap.size + 1, 3, none⟩ b3).setCell ⟨w.heap.size + 1, 4, none⟩ b4).setCell ⟨w.heap.size + 1, 5, none⟩ b5).setCell ⟨w.heap.size + 1, 6, none⟩ b6)) #[a0, a1, a2, a3, a4, a5, a6] #[b0, b1, b2, b3, b4, b5, b6] := by
 rw [setRow7 h.b0 hx]
 have h1 : (W.setRow w.heap.size #[a0, a1, a2, a3, a4, a5, a6]).heap[w.heap.size + 1]? = _ := (setRow_other _ _ _ _ (by omega)).trans h.b1
 rw [setRow7 h1 hy]
 obtain ⟨z, hz, h2⟩ := h.b2
 refine ⟨?_, setRow_heap _ _ _ _ _ _ h1, ⟨z, hz, ?_⟩, below_setRowO (below_setRowO h.bel (Nat.le_refl _) _) (by omega) _, by rw [size_setRow, size_setRow]; exact h.size⟩
 · rw [setRow_other _ _ _ _ (by omega)]; exact setRow_heap _ _ _ _ _ _ h.b0
 · rw [setRow_other _ _ _ _ (by omega), setRow_other _ _ _ _ (by omega)]; exact h2
theorem row7z {w : World} {g : Nat} {t : TypeId} {z : Array Value} (hz : z.size = 7) (h : w.heap[g]? = some (.cells z t (0, 0))) :
 ∃ a0 a1 a2 a3 a4 a5 a6, (w.cell? ⟨g, 0, none⟩ = some a0 ∧ w.cell? ⟨g, 1, none⟩ = some a1 ∧ w.cell? ⟨g, 2, none⟩ = some a2 ∧ w.cell? ⟨g, 3, none⟩ = some a3 ∧ w.cell? ⟨g, 4, none⟩ = some a4 ∧ w.cell? ⟨g, 5, none⟩ = some a5 ∧ w.cell? ⟨g, 6, none⟩ = some a6) ∧
  (∀ j, w.frozen? ⟨g, j, none⟩ = false) := by
 obtain ⟨z⟩ := z
 match z, hz with
 | [a0, a1, a2, a3, a4, a5, a6], _ => exact ⟨a0, a1, a2, a3, a4, a5, a6, row7 h⟩
theorem Three.ret {w W : World} {x y : Array Value} (T : Three w W x y) (q : Rat) {fn : Func} {r : Tmp} {tmps : Array Value} (h : fn.results = #[.cell r 27]) (hr : tmps.getD r undef = .pointer (some ⟨w.heap.size + 1 + 1, 0, none⟩)) :
 bodyPost Tryz.prog fn (RetN w q) Exit.ret ⟨tmps, []⟩ (((((((W.setCell ⟨w.heap.size + 1 + 1, 0, none⟩ (.int .i64 1)).setCell ⟨w.heap.size + 1 + 1, 1, none⟩ (.string (nt q))).setCell ⟨w.heap.size + 1 + 1, 2, none⟩ (.string (dt q))).setCell ⟨w.heap.size + 1 + 1, 3, none⟩ (.string ⟨#[]⟩)).setCell ⟨w.heap.size + 1 + 1, 4, none⟩ (.string ⟨#[]⟩)).setCell ⟨w.heap.size + 1 + 1, 5, none⟩ (.string ⟨#[]⟩)).setCell ⟨w.heap.size + 1 + 1, 6, none⟩ (.slice none 0 0)) := by
 obtain ⟨z, hz, h2⟩ := T.b2
 rw [setRow7 h2 hz]
 exact retN h hr (setRow_heap _ _ _ _ _ _ h2) rfl (below_setRowO T.bel (by omega) _)

set_option maxHeartbeats 8000000 in
set_option maxRecDepth 100000 in
theorem productP (d : Nat) (hd : d ≤ 1000) (a a' : Ob) (p p' : Value) (w : World) (S : Nat → Prop) (hp : Pair w S a p) (hp' : Pair w S a' p') (hb : Bd d a.fix) (hb' : Bd d a'.fix) (ht : Tab w) :
 Calls Tryz.prog 133 #[vO a p, vO a' p'] w (RetN w (a.fix * a'.fix)) := by
 have HT := qh9 ht
 have A1 : Hid (∀ wd, Tab wd → Calls Tryz.prog 164 #[vO a p] wd (RetN wd a.fix)) := fun wd h => asNumP a p wd (fun q e => by subst e; exact hp) h
 have A2 : Hid (∀ wd, Tab wd → Calls Tryz.prog 164 #[vO a' p'] wd (RetN wd a'.fix)) := fun wd h => asNumP a' p' wd (fun q e => by subst e; exact hp') h
 clear ht hp hp'
 generalize a.fix = x at A1 hb ⊢
 generalize a'.fix = y at A2 hb' ⊢
 obtain ⟨x0, x1, x2, x3, x4, x5, e⟩ := cells7 a p
 obtain ⟨y0, y1, y2, y3, y4, y5, e'⟩ := cells7 a' p'
 unfold vO at A1 A2
 rw [e] at A1
 rw [e'] at A2
 unfold vO
 rw [e, e']
 clear e e'
 go_enter Tryz.func133, Tryz.ntmps133
 go_wp2_with fail
 have T0 := Three.new w #[x0, x1, x2, x3, x4, x5, p] #[y0, y1, y2, y3, y4, y5, p'] #[.int .i64 0, .string ⟨#[]⟩, .string ⟨#[]⟩, .string ⟨#[]⟩, .string ⟨#[]⟩, .string ⟨#[]⟩, .slice none 0 0] rfl
 generalize ((w.alloc (.cells #[x0, x1, x2, x3, x4, x5, p] 27)).alloc (.cells #[y0, y1, y2, y3, y4, y5, p'] 27)).alloc (.cells #[.int .i64 0, .string ⟨#[]⟩, .string ⟨#[]⟩, .string ⟨#[]⟩, .string ⟨#[]⟩, .string ⟨#[]⟩, .slice none 0 0] 27) = W at T0 ⊢
 go_upto_region 1 with fail
 go_cut [4] (fun s4 wx => s4 = .pointer (some ⟨w.heap.size + 1 + 1, 0, none⟩) ∧ Hid (Three w wx #[.int .i64 1, .string (nt x), .string (dt x), .string ⟨#[]⟩, .string ⟨#[]⟩, .string ⟨#[]⟩, .slice none 0 0] #[.int .i64 1, .string (nt y), .string (dt y), .string ⟨#[]⟩, .string ⟨#[]⟩, .string ⟨#[]⟩, .slice none 0 0]))
 case first =>
  have hB0 : Below W.heap.size W W.drew := (Below.refl _ _).drew
  obtain ⟨⟨c0, c1, c2, c3, c4, c5, c6⟩, f0⟩ := row7 T0.b0
  obtain ⟨⟨d0, d1, d2, d3, d4, d5, d6⟩, f1⟩ := row7 T0.b1
  have HB : Hid (∀ W', Below W.heap.size W W' → Tab W') := fun W' h => HT.out.below (T0.below h).bel
  go_region_with (first
   | (go_at_call_of 164 (Value.agg #[x0, x1, x2, x3, x4, x5, p]); refine (A1.out _ (HB.out _ ‹Below W.heap.size W _›)).mono ?_; rintro e w3 ⟨rfl, hb3⟩; have hB3 := chain2 ‹Below W.heap.size W _› hb3 (Nat.le_refl _); obtain ⟨⟨c0, c1, c2, c3, c4, c5, c6⟩, f0⟩ := row7 (T0.below hB3).b0; obtain ⟨⟨d0, d1, d2, d3, d4, d5, d6⟩, f1⟩ := row7 (T0.below hB3).b1; unfold vQ)
   | (go_at_call_of 164 (Value.agg #[y0, y1, y2, y3, y4, y5, p']); refine (A2.out _ (HB.out _ ‹Below W.heap.size W _›)).mono ?_; rintro e w4 ⟨rfl, hb4⟩; have hB4 := chain2 ‹Below W.heap.size W _› hb4 (Nat.le_refl _); obtain ⟨⟨c0, c1, c2, c3, c4, c5, c6⟩, f0⟩ := row7 (T0.below hB4).b0; obtain ⟨⟨d0, d1, d2, d3, d4, d5, d6⟩, f1⟩ := row7 (T0.below hB4).b1; unfold vQ))
  all_goals (go_wp2_with fail; go_meet; exact ⟨rfl, Three.set (T0.below ‹Below W.heap.size W _›) rfl rfl _ _ _ _ _ _ _ _ _ _ _ _ _ _⟩)
 case rest =>
  obtain ⟨rfl, T⟩ := hcut
  have b1 := bd_nt hb
  have b2 := bd_dt hb
  have b3 := bd_nt hb'
  have b4 := bd_dt hb'
  have hv : Hid (quo (LA (BA (text (val (LA (nt x)) * val (LA (nt y)))))) (LA (BA (text (val (LA (dt x)) * val (LA (dt y)))))) = x * y) := by
   show _ = _
   rw [val_nt, val_dt, val_nt, val_dt, quo_text, q_mul]
  have s1 : (BA (text (val (LA (nt x)) * val (LA (nt y))))).size ≤ 3000 := by
   rw [val_nt, val_nt, BA_size]
   refine Nat.le_trans (text_length (k := d + d) ?_) (by omega)
   rw [Int.natAbs_mul]
   exact lt_pow_mul hb.1 hb'.1
  have s2 : (BA (text (val (LA (dt x)) * val (LA (dt y))))).size ≤ 3000 := by
   rw [val_dt, val_dt, BA_size]
   refine Nat.le_trans (text_length (k := d + d) ?_) (by omega)
   rw [Int.natAbs_mul]
   exact lt_pow_mul hb.2 hb'.2
  have RN : Hid (∀ W, Calls Tryz.prog 165 #[.string (BA (text (val (LA (nt x)) * val (LA (nt y))))), .string (BA (text (val (LA (dt x)) * val (LA (dt y)))))] W (RetN W (x * y))) := fun W => by
   rw [← hv.out]; exact ratN _ _ _ (by omega) (by omega)
  clear hb hb' A1 A2 T0 hv s1 s2
  generalize nt x = nx at b1 T RN
  generalize dt x = dx at b2 T RN
  generalize nt y = ny at b3 T RN
  generalize dt y = dy at b4 T RN
  obtain ⟨⟨_, c1, c2, _, _, _, _⟩, _⟩ := row7 T.out.b0
  obtain ⟨⟨_, d1, d2, _, _, _, _⟩, _⟩ := row7 T.out.b1
  have hB0 : Below wc.heap.size wc wc.drew := (Below.refl _ _).drew
  have n1 : ¬ w.heap.size + 1 + 1 = w.heap.size := by omega
  have n2 : ¬ w.heap.size + 1 + 1 = w.heap.size + 1 := by omega
  go_wp2_with fail
  go_region_held3 (fun W' => W'.cell? ⟨w.heap.size, 1, none⟩ = some (.string nx) ∧ W'.cell? ⟨w.heap.size, 2, none⟩ = some (.string dx) ∧ W'.cell? ⟨w.heap.size + 1, 1, none⟩ = some (.string ny) ∧ W'.cell? ⟨w.heap.size + 1, 2, none⟩ = some (.string dy)) (go_keep)
   (first
     | (go_at_call 167; refine (multiply_any _ _ _ (by omega) (by omega)).mono ?_; rintro e w3 ⟨rfl, hb3⟩; have hB3 := chain2 ‹Below wc.heap.size wc _› hb3 (Nat.le_refl _); obtain ⟨⟨_, c1, c2, _, _, _, _⟩, _⟩ := row7 (T.out.below hB3).b0; obtain ⟨⟨_, d1, d2, _, _, _, _⟩, _⟩ := row7 (T.out.below hB3).b1)
     | (go_at_call 165; refine (RN.out _).mono ?_; rintro e w4 ⟨rfl, hb4⟩; have hB4 := chain2 ‹Below wc.heap.size wc _› hb4 (Nat.le_refl _); obtain ⟨⟨_, c1, c2, _, _, _, _⟩, _⟩ := row7 (T.out.below hB4).b0; obtain ⟨⟨_, d1, d2, _, _, _, _⟩, _⟩ := row7 (T.out.below hB4).b1; obtain ⟨z, hz, hz2⟩ := (T.out.below hB4).b2; obtain ⟨z0, z1, z2, z3, z4, z5, z6, ⟨q0, q1, q2, q3, q4, q5, q6⟩, f2⟩ := row7z hz hz2; clear hz hz2; unfold vQ))
  all_goals go_wp2
  all_goals exact Three.ret (T.out.below ‹Below wc.heap.size wc _›) _ rfl rfl
end Go.Proofs.YtbffnoodpoagcaaGreatDoor
