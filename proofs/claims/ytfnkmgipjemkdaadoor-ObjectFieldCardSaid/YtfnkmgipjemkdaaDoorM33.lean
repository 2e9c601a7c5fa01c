/- Ints as objects: the reference's FromInt and Int. -/
import Derived.Test.YtfnkmgipjemkdaaDoorM32
import Derived.Test.YtfnkmgipjemkdaaDoorShelf
import Derived.Test.YtfnkmgipjemkdaaDoorCompMath
import Derived.Lib.LaidTab
import Derived.WalkSmall
import Derived.StillTailTactics
namespace Go.Proofs.YtfnkmgipjemkdaaDoor
open Go Go.RowKit
set_option linter.unusedVariables false

def Tab (w : World) : Prop := Lib.TabIs Tryd.prog w "internal/strconv.uint64pow10" .u64 Lib.pow10Tab
theorem tab_global : Tryd.prog.globalNamed "internal/strconv.uint64pow10" = some 0 := by kernel_rfl
theorem Tab.pos {w : World} (h : Tab w) : 0 < w.heap.size := by
  have h1 := World.var?_cell tab_global h 0
  have h2 : w.cell? ⟨0, 0, none⟩ = some (.int .u64 1) := by rw [h1]; rfl
  exact World.block_lt_of_cell? w _ h2
theorem Tab.below {w w' : World} (h : Tab w) (hb : Below w.heap.size w w') : Tab w' := var?_below hb tab_global h.pos h
theorem below_grow (w : World) (k : Nat) (os : Array Obj) : Below w.heap.size w (Go.Sort.grow (w.drewN k) os) := by
  refine ⟨rfl, rfl, rfl, by simp [Go.Sort.grow], fun b hb => ?_⟩
  simp only [Go.Sort.grow, World.heap_drewN]
  rw [Array.getElem?_append_left hb]
theorem itoa_any (n : Int) (w : World) (h : Hid (I64 n)) (ht : Tab w) : Calls Tryd.prog 40 #[.int .i64 n] w (RetS w n) :=
  (Tryd.strconv_Itoa n h.out.1 h.out.2 w ht).mono fun e w' ⟨h1, k, os, h2⟩ => by
    subst h2
    refine ⟨h1.trans ?_, below_grow w k os⟩
    rw [itoa_eq]
    rfl
theorem text_of_int {n : Int} (h : Hid (I64 n)) : (BA (text n)).size ≤ 100 := by
  rw [BA_size]
  have h1 := text_length (x := n) (k := 20) (by have := h.out; unfold I64 at this; omega)
  omega

end Go.Proofs.YtfnkmgipjemkdaaDoor

/- The reference's List. -/
namespace Go.Proofs.YtfnkmgipjemkdaaDoor
open Go Go.RowKit
set_option linter.unusedVariables false

/-- Objects one after another from offset o of block b on. -/
def ObsAt (w : World) (S : Nat → Prop) (b o : Nat) : List Ob → Prop
  | [] => True
  | r :: rs => (∃ p, Pair w S r p ∧ ∀ j u, (cellsO r p)[j]? = some u → w.cell? ⟨b, o + j, none⟩ = some u) ∧ ObsAt w S b (o + 7) rs
theorem ObsAt.get {w : World} {S : Nat → Prop} {b : Nat} : ∀ {l : List Ob} {o i : Nat} (hi : i < l.length), ObsAt w S b o l → ∃ p, Pair w S l[i] p ∧ ∀ j u, (cellsO l[i] p)[j]? = some u → w.cell? ⟨b, o + i * 7 + j, none⟩ = some u
  | r :: rs, o, 0, hi, h => by
    unfold ObsAt at h
    obtain ⟨p, h1, h2⟩ := h.1
    exact ⟨p, h1, fun j u hj => by rw [Nat.zero_mul, Nat.add_zero]; exact h2 j u hj⟩
  | r :: rs, o, i + 1, hi, h => by
    unfold ObsAt at h
    obtain ⟨p, h1, h2⟩ := ObsAt.get (l := rs) (o := o + 7) (i := i) (by simpa using hi) h.2
    exact ⟨p, h1, fun j u hj => by rw [show o + (i + 1) * 7 + j = o + 7 + i * 7 + j from by omega]; exact h2 j u hj⟩
theorem list_drop {l : List Ob} {i : Nat} (hi : i < l.length) : Ob.list (l.drop i) = .cons l[i] (Ob.list (l.drop (i + 1))) := by
  rw [List.drop_eq_getElem_cons hi]; rfl

/-- Between rounds: block g holds the list of the last objects. -/
def ListW (w W wr : World) (S : Nat → Prop) (l : List Ob) (g k : Nat) : Prop :=
  ∃ p t, wr.heap[g]? = some (.cells (cellsO (Ob.list (l.drop k)) p).toArray t (0, 0)) ∧ Pair wr (fun b => S b ∨ (g < b ∧ b < wr.heap.size)) (Ob.list (l.drop k)) p ∧ Below g W wr

end Go.Proofs.YtfnkmgipjemkdaaDoor

/- The program's constructors of objects. -/
namespace Go.Proofs.YtfnkmgipjemkdaaDoor
open Go Go.RowKit
set_option linter.unusedVariables false

theorem textP (s : ByteArray) (w : World) (S : Nat → Prop) : Calls Tryd.prog 14 #[.string s] w (RetO w S (.str (LA s))) := by
  obtain ⟨s, rfl⟩ : ∃ l, s = BA l := ⟨LA s, (BA_LA s).symm⟩
  go_enter Tryd.func14, Tryd.ntmps14
  go_wp2_with fail
  refine retO rfl rfl (heap_alloc_new w _) rfl ⟨.slice none 0 0, ?_, rfl, ?_⟩
  · rfl
  · exact Below.alloc (Below.refl _ _) (Nat.le_refl _) _
theorem symP (p n : ByteArray) (w : World) (S : Nat → Prop) : Calls Tryd.prog 34 #[.agg #[.string p, .string n]] w (RetO w S (.sym (LA p) (LA n))) := by
  obtain ⟨p, rfl⟩ : ∃ l, p = BA l := ⟨LA p, (BA_LA p).symm⟩
  obtain ⟨n, rfl⟩ : ∃ l, n = BA l := ⟨LA n, (BA_LA n).symm⟩
  go_enter Tryd.func34, Tryd.ntmps34
  go_wp2_with fail
  refine retO rfl rfl (heap_alloc2_new w _ _) rfl ⟨.slice none 0 0, ?_, rfl, ?_⟩
  · rfl
  · exact Below.alloc (Below.alloc (Below.refl _ _) (Nat.le_refl _) _) (by simp) _
theorem consRawP (a0 a1 a2 a3 a4 a5 a6 b0 b1 b2 b3 b4 b5 b6 : Value) (w : World) :
    Calls Tryd.prog 30 #[.agg #[a0, a1, a2, a3, a4, a5, a6], .agg #[b0, b1, b2, b3, b4, b5, b6]] w fun e w' =>
      ∃ g, e = .returned (.agg #[.int .i64 4, e0, e0, e0, e0, e0, .slice (some ⟨g, 0, none⟩) 2 2]) ∧ w.heap.size ≤ g ∧ g < w'.heap.size ∧
        w'.heap[g]? = some (.cells #[a0, a1, a2, a3, a4, a5, a6, b0, b1, b2, b3, b4, b5, b6] 27 (0, 0)) ∧ Below w.heap.size w w' := by
  go_enter Tryd.func30, Tryd.ntmps30
  go_wp2_with fail
  refine retO rfl rfl (g := w.heap.size + 1 + 1) (t := 27) (fr := (0, 0)) ?_ rfl ⟨w.heap.size + 1 + 1 + 1, rfl, by omega, ?_, ?_, ?_⟩
  · rw [Below.heap_alloc _ _ _ (by simp)]
    exact heap_new_at (by simp)
  · simp
  · exact heap_new_at (by simp)
  · exact Below.alloc (Below.alloc (Below.alloc (Below.alloc (Below.refl _ _) (Nat.le_refl _) _) (by simp) _) (by simp; omega) _) (by simp; omega) _
theorem consP (a d : Ob) (pa pd : Value) (w : World) (S : Nat → Prop) (hS : In S w) (ha : Pair w S a pa) (hd : Pair w S d pd) :
    Calls Tryd.prog 30 #[vO a pa, vO d pd] w (RetO w S (.cons a d)) := by
  obtain ⟨a0, a1, a2, a3, a4, a5, ea⟩ := cells7 a pa
  obtain ⟨b0, b1, b2, b3, b4, b5, eb⟩ := cells7 d pd
  unfold vO
  rw [ea, eb]
  refine (consRawP a0 a1 a2 a3 a4 a5 pa b0 b1 b2 b3 b4 b5 pd w).mono ?_
  rintro e w' ⟨g, rfl, hg0, hg, hh, hb⟩
  refine ⟨.slice (some ⟨g, 0, none⟩) 2 2, rfl, ⟨g, 0, 2, pa, pd, rfl, Nat.le_refl _, ⟨.inr ⟨hg0, hg⟩, _, _, hh⟩, ?_, (ha.below hS hb).more fun _ h => .inl h, (hd.below hS hb).more fun _ h => .inl h⟩, hb⟩
  intro j u hj
  rw [ea, eb] at hj
  rw [Nat.zero_add, cell_of_row w' g j _ _ _ hh, ← hj]
  simp
theorem ratP (s t : ByteArray) (w : World) (S : Nat → Prop) (hS : In S w) (hs : s.size ≤ 400000000) (ht : t.size ≤ 400000000) :
    Calls Tryd.prog 5 #[.string s, .string t] w (RetO w S (.num (quo (LA s) (LA t)))) := by
  go_enter Tryd.func5, Tryd.ntmps5
  go_wp2_with fail
  refine (reduce_q s t _ hs ht).mono ?_
  rintro e w1 ⟨rfl, hb1⟩
  have hg := Lib.hid ((hb1.block w.heap.size (by simp)).trans (heap_alloc_new w _))
  go_wp2_with (refine storeV (w1 := w1) (S := fun _ => False) rfl (.tmp 4) (.tmp 13) rfl w.heap.size (.num (quo (LA s) (LA t))) (.slice none 0 0) rfl rfl rfl _ _ hg.out rfl ?_)
  exact retV (S' := fun _ => False) rfl rfl hg.out rfl (fun h => h) (fun _ h => h.elim) (Nat.le_refl _) ((Below.alloc (Below.refl _ _) (Nat.le_refl _) _).trans (hb1.mono (by simp)))
theorem nilP (w : World) (S : Nat → Prop) : Calls Tryd.prog 21 #[] w (RetO w S .nil) := by
  go_enter Tryd.func21, Tryd.ntmps21
  go_wp2_with fail
  refine (symP _ _ _ (fun _ => False)).mono ?_
  rintro e w2 ⟨p, rfl, hp, hb2⟩
  have h12 := hb2.size
  simp only [World.size_alloc] at h12
  have hg := Lib.hid ((hb2.block w.heap.size (by simp)).trans (heap_alloc_new w _))
  go_wp2_with (refine storeV (w1 := w2) rfl (.tmp 0) (.tmp 2) rfl w.heap.size _ _ rfl rfl hp _ _ hg.out rfl ?_)
  exact retV (o := .nil) rfl rfl hg.out hp (fun h => by
    rcases h with h | ⟨h, _⟩
    · exact h
    · simp at h; omega) (fun b hb => by
    rcases hb with hb | ⟨h1, h2⟩
    · exact hb.elim
    · exact .inr ⟨by simp at h1; omega, h2⟩) (Nat.le_refl _) ((Below.alloc (Below.refl _ _) (Nat.le_refl _) _).trans (hb2.mono (by simp)))
theorem tP (w : World) (S : Nat → Prop) : Calls Tryd.prog 19 #[] w (RetO w S .t) := by
  go_enter Tryd.func19, Tryd.ntmps19
  go_wp2_with fail
  refine (symP _ _ _ (fun _ => False)).mono ?_
  rintro e w2 ⟨p, rfl, hp, hb2⟩
  have h12 := hb2.size
  simp only [World.size_alloc] at h12
  have hg := Lib.hid ((hb2.block w.heap.size (by simp)).trans (heap_alloc_new w _))
  go_wp2_with (refine storeV (w1 := w2) rfl (.tmp 0) (.tmp 2) rfl w.heap.size _ _ rfl rfl hp _ _ hg.out rfl ?_)
  exact retV (o := .t) rfl rfl hg.out hp (fun h => by
    rcases h with h | ⟨h, _⟩
    · exact h
    · simp at h; omega) (fun b hb => by
    rcases hb with hb | ⟨h1, h2⟩
    · exact hb.elim
    · exact .inr ⟨by simp at h1; omega, h2⟩) (Nat.le_refl _) ((Below.alloc (Below.refl _ _) (Nat.le_refl _) _).trans (hb2.mono (by simp)))

set_option maxHeartbeats 400000 in
set_option maxRecDepth 100000 in
theorem fromIntP (n : Int) (w : World) (h : Hid (I64 n)) (ht : Tab w) :
    Calls Tryd.prog 23 #[.int .i64 n] w (RetS w n) := by
  replace ht := Lib.hid ht
  go_enter Tryd.func23, Tryd.ntmps23
  go_wp2_with fail
  refine (itoa_any n w h ht.out).mono ?_
  rintro e w1 ⟨rfl, hb1⟩
  go_wp2
  go_ret
  exact ⟨rfl, hb1⟩
theorem int_nt (n : Int) : nt (n : Rat) = BA (text n) := by unfold nt; rw [Rat.num_intCast]
theorem int_dt (n : Int) : dt (n : Rat) = ⟨#[49]⟩ := by
  unfold dt; rw [Rat.den_intCast]; decide

set_option maxHeartbeats 400000 in
set_option maxRecDepth 100000 in
theorem intP (n : Int) (w : World) (S : Nat → Prop) (h : Hid (I64 n)) (ht : Tab w) :
    Calls Tryd.prog 6 #[.int .i64 n] w (RetO w S (.num (n : Rat))) := by
  replace ht := Lib.hid ht
  go_enter Tryd.func6, Tryd.ntmps6
  go_wp2_with fail
  have hb0 : Below w.heap.size w (w.alloc (Obj.cells #[Value.int IntKind.i64 0, Value.string { data := #[] }, Value.string { data := #[] }, Value.string { data := #[] }, Value.string { data := #[] }, Value.string { data := #[] }, Value.slice none 0 0] 27)) := Below.alloc (Below.refl _ _) (Nat.le_refl _) _
  have hg0 := heap_alloc_new w (Obj.cells #[Value.int IntKind.i64 0, Value.string { data := #[] }, Value.string { data := #[] }, Value.string { data := #[] }, Value.string { data := #[] }, Value.string { data := #[] }, Value.slice none 0 0] 27)
  refine (fromIntP n _ h (ht.out.below hb0)).mono ?_
  rintro e w1 ⟨rfl, hb1⟩
  have hg1 := Lib.hid ((hb1.block w.heap.size (by simp)).trans hg0)
  clear hg0
  have hbw := Lib.hid (hb0.trans (hb1.mono hb0.size))
  have ev : Hid (Value.agg #[.int .i64 1, .string (BA (text n)), .string ⟨#[49]⟩, e0, e0, e0, .slice none 0 0] = vO (.num (n : Rat)) (.slice none 0 0)) := by
    show _ = Value.agg #[.int .i64 1, .string (nt (n : Rat)), .string (dt (n : Rat)), e0, e0, e0, .slice none 0 0]
    rw [int_nt, int_dt]
  clear hb0 hb1
  go_wp2_with (refine storeV (w1 := w1) (S := fun _ => False) rfl (.tmp 2) (.tmp 5) rfl w.heap.size (.num (n : Rat)) (.slice none 0 0) rfl ev.out rfl _ _ hg1.out rfl ?_)
  exact retV (S' := fun _ => False) rfl rfl hg1.out rfl (fun h => h) (fun _ h => h.elim) (Nat.le_refl _) hbw.out
end Go.Proofs.YtfnkmgipjemkdaaDoor
