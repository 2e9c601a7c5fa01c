import Derived.Test.YtinjhnnpbejccaaGreatDoorAl
import Derived.Test.YtinjhnnpbejccaaGreatDoorG11
import Derived.Test.YtinjhnnpbejccaaGreatDoorSh0
import Derived.Lib.LaidTab
import Derived.WalkSmall
import Derived.StillTailTactics
import Derived.IntWalk
import Derived.LaidEqlPtr
import Derived.Deep.MidRow
import Derived.Laws.MakeOwn
import Derived.Deep.QuietTactic
import Derived.BigQuiet
import Derived.Deep.RegionHeld3
namespace Go.Proofs.YtinjhnnpbejccaaGreatDoor
open Go Go.RowKit
set_option linter.unusedVariables false
set_option maxHeartbeats 32000000
set_option maxRecDepth 100000
def Tab (w : World) : Prop := Lib.TabIs Tryz.prog w "internal/strconv.uint64pow10" .u64 Lib.pow10Tab
theorem tab_global : Tryz.prog.globalNamed "internal/strconv.uint64pow10" = some 0 := by kernel_rfl
theorem Tab.pos {w : World} (h : Tab w) : 0 < w.heap.size := by
 have h1 := World.var?_cell tab_global h 0
 have h2 : w.cell? ⟨0, 0, none⟩ = some (.int .u64 1) := by rw [h1]; rfl
 exact World.block_lt_of_cell? w _ h2
theorem Tab.below {w w' : World} (h : Tab w) (hb : Below w.heap.size w w') : Tab w' := var?_below hb tab_global h.pos h
theorem below_grow /- 98 -/ (w : World) (k : Nat) (os : Array Obj) : Below w.heap.size w (Go.Sort.grow (w.drewN k) os) := by
 refine ⟨rfl, rfl, rfl, by simp [Go.Sort.grow], fun b hb => ?_⟩
 simp only [Go.Sort.grow, World.heap_drewN]
 rw [Array.getElem?_append_left hb]
theorem itoa_any (n : Int) (w : World) (h : Hid (I64 n)) (ht : Tab w) : Calls Tryz.prog 98 #[.int .i64 n] w (RetS w n) :=
 (Tryz.strconv_Itoa n h.out.1 h.out.2 w ht).mono fun e w' ⟨h1, k, os, h2⟩ => by
   subst h2
   refine ⟨h1.trans ?_, below_grow w k os⟩
   rw [itoa_eq]
   rfl
theorem text_of_int {n : Int} (h : Hid (I64 n)) : (BA (text n)).size ≤ 100 := by
 rw [BA_size]
 have h1 := text_length (x := n) (k := 20) (by have := h.out; unfold I64 at this; omega)
 omega

theorem fromIntR (n : Int) (w : World) (h : Hid (I64 n)) (ht : Tab w) :
 Calls Tryz.prog 61 #[.int .i64 n] w (RetS w n) := by
 replace ht := qh9 ht
 go_enter Tryz.func61, Tryz.ntmps61
 go_wp2_with fail
 refine (itoa_any n w h ht.out).mono ?_
 rintro e w1 ⟨rfl, hb1⟩
 go_wp2
 go_ret
 exact ⟨rfl, hb1⟩

theorem intO (n : Int) (w : World) (S : Nat → Prop) (hS : In S w) (h : Hid (I64 n)) (ht : Tab w) :
 Calls Tryz.prog 59 #[.int .i64 n] w (RetO w S (.num (n : Rat))) := by
 replace ht := qh9 ht
 have hq : quo (LA (BA (text n))) (LA ⟨#[49]⟩) = (n : Rat) := by
  rw [show (⟨#[49]⟩ : ByteArray) = BA (text 1) from by decide, quo_text, q_int]
 have HQ := qh9 hq
 clear hq
 go_enter Tryz.func59, Tryz.ntmps59
 go_wp2_with fail
 have hb0 : Below w.heap.size w (w.alloc (Obj.cells #[Value.int IntKind.i64 0, Value.string { data := #[] }, Value.string { data := #[] }, Value.string { data := #[] }, Value.string { data := #[] }, Value.string { data := #[] }, Value.slice none 0 0] 33)) := Below.alloc (Below.refl _ _) (Nat.le_refl _) _
 have hg0 := heap_alloc_new w (Obj.cells #[Value.int IntKind.i64 0, Value.string { data := #[] }, Value.string { data := #[] }, Value.string { data := #[] }, Value.string { data := #[] }, Value.string { data := #[] }, Value.slice none 0 0] 33)
 refine (fromIntR n _ h (ht.out.below hb0)).mono ?_
 rintro e w1 ⟨rfl, hb1⟩
 have h12 := hb1.size
 simp only [World.size_alloc] at h12
 have hg1 := (hb1.block w.heap.size (by simp)).trans hg0
 clear hg0
 have hbw := hb0.trans (hb1.mono hb0.size)
 replace hg1 := qh9 hg1
 go_wp2_with fail
 refine (ratO _ ⟨#[49]⟩ w1 (fun _ => False) (fun _ h => h.elim) (by have := text_of_int h; omega) (by decide)).mono ?_
 rintro e w2 ⟨p, rfl, hp, hb2⟩
 rw [HQ.out] at hp ⊢
 have h23 := hb2.size
 have hg2 := qh9 ((hb2.block w.heap.size (by omega)).trans hg1.out)
 go_wp2_with (refine storeV (w1 := w2) rfl (.tmp 2) (.tmp 5) rfl w.heap.size _ _ rfl rfl hp _ _ hg2.out rfl ?_)
 exact retV rfl rfl hg2.out hp (fun h => by
  rcases h with h | ⟨h, _⟩
  · exact h
  · omega) (fun b hb => by
  rcases hb with hb | ⟨h1, h2⟩
  · exact hb.elim
  · exact .inr ⟨by omega, h2⟩) (Nat.le_refl _) (hbw.trans (hb2.mono hbw.size))
def ObsAt (w : World) (S : Nat → Prop) (b o : Nat) : List Ob → Prop
 | [] => True
 | r :: rs => (∃ p, Pair w S r p ∧ ∀ j u, (cellsO r p)[j]? = some u → w.cell? ⟨b, o + j, none⟩ = some u) ∧ ObsAt w S b (o + 7) rs
theorem ObsAt.get {w : World} {S : Nat → Prop} {b : Nat} : ∀ {l : List Ob} {o i : Nat} (hi : i < l.length), ObsAt w S b o l → ∃ p, Pair w S l[i] p ∧ ∀ j u, (cellsO l[i] p)[j]? = some u → w.cell? ⟨b, o + i * 7 + j, none⟩ = some u
 | r :: rs, o, 0, hi, h => by
  unfold ObsAt at h
  obtain ⟨p, h1, h2⟩ := h.1
  exact ⟨p, h1, fun j u hj => by rw [Nat.zero_mul, Nat.add_zero]; exact h2 j u hj⟩
 | r :: rs, o, i + 1, hi, h => by
  unfold ObsAt at h
  obtain ⟨p, h1, h2⟩ := ObsAt.get (l := rs) (o := o + 7) (i := i) (by simpa using hi) h.2
  exact ⟨p, h1, fun j u hj => by rw [show o + (i + 1) * 7 + j = o + 7 + i * 7 + j from by omega]; exact h2 j u hj⟩
theorem list_drop {l : List Ob} {i : Nat} (hi : i < l.length) : Ob.list (l.drop i) = .cons l[i] (Ob.list (l.drop (i + 1))) := by
 rw [List.drop_eq_getElem_cons hi]; rfl
def ListW (w W wr : World) (S : Nat → Prop) (l : List Ob) (g k : Nat) : Prop :=
 ∃ p t, wr.heap[g]? = some (.cells (cellsO (Ob.list (l.drop k)) p).toArray t (0, 0)) ∧ Pair wr (fun b => S b ∨ (g < b ∧ b < wr.heap.size)) (Ob.list (l.drop k)) p ∧ Below g W wr

theorem listO (l : List Ob) (A : Option Addr) (c : Nat) (w : World) (S : Nat → Prop) (hS : In S w) (hc : l.length ≤ c) (hl : l.length ≤ 100000)
 (hA : 0 < l.length → ∃ b o, A = some ⟨b, o, none⟩ ∧ S b ∧ ObsAt w S b o l) :
 Calls Tryz.prog 67 #[.slice A l.length c] w (RetO w S (Ob.list l)) := by
 obtain ⟨L, hL⟩ : ∃ L, l.length = L := ⟨_, rfl⟩
 rw [hL] at hc hA hl ⊢
 have HL := qh9 hL
 have HA := qh9 hA
 clear hL hA
 go_enter Tryz.func67, Tryz.ntmps67
 go_wp2_with fail
 have hb0 : Below w.heap.size w (w.alloc (Obj.cells #[Value.int IntKind.i64 0, Value.string { data := #[] }, Value.string { data := #[] }, Value.string { data := #[] }, Value.string { data := #[] }, Value.string { data := #[] }, Value.slice none 0 0] 33)) := Below.alloc (Below.refl _ _) (Nat.le_refl _) _
 have hg0 := heap_alloc_new w (Obj.cells #[Value.int IntKind.i64 0, Value.string { data := #[] }, Value.string { data := #[] }, Value.string { data := #[] }, Value.string { data := #[] }, Value.string { data := #[] }, Value.slice none 0 0] 33)
 refine (nilO _ (fun _ => False)).mono ?_
 rintro e w1 ⟨p, rfl, hp, hb1⟩
 have h12 := hb1.size
 simp only [World.size_alloc] at h12
 have hg1 := qh9 ((hb1.block w.heap.size (by simp)).trans hg0)
 have hbw := hb0.trans (hb1.mono hb0.size)
 clear hg0 hb0 hb1
 have hp' : Pair w1 (fun _ => False) .nil p := hp
 go_wp2_with (refine storeV (w1 := w1) rfl (.tmp 3) (.tmp 5) rfl w1.heap.size .nil p rfl rfl hp _ _ (heap_alloc_new w1 _) rfl ?_)
 have hg := setRow_heap (w1.alloc (Obj.cells #[Value.int IntKind.i64 0, Value.string { data := #[] }, Value.string { data := #[] }, Value.string { data := #[] }, Value.string { data := #[] }, Value.string { data := #[] }, Value.slice none 0 0] 33)) w1.heap.size _ (cellsO .nil p).toArray _ _ (heap_alloc_new w1 _)
 have hbW := below_setRowO (Below.alloc hbw (by omega) (Obj.cells #[Value.int IntKind.i64 0, Value.string { data := #[] }, Value.string { data := #[] }, Value.string { data := #[] }, Value.string { data := #[] }, Value.string { data := #[] }, Value.slice none 0 0] 33)) (g := w1.heap.size) (by omega) (cellsO .nil p).toArray
 have hgW : ((w1.alloc (Obj.cells #[Value.int IntKind.i64 0, Value.string { data := #[] }, Value.string { data := #[] }, Value.string { data := #[] }, Value.string { data := #[] }, Value.string { data := #[] }, Value.slice none 0 0] 33)).setRow w1.heap.size (cellsO .nil p).toArray).heap[w.heap.size]? = some (Obj.cells #[Value.int IntKind.i64 0, Value.string { data := #[] }, Value.string { data := #[] }, Value.string { data := #[] }, Value.string { data := #[] }, Value.string { data := #[] }, Value.slice none 0 0] 33) := by
  rw [setRow_other _ _ _ _ (by omega), Below.heap_alloc _ _ _ (by omega)]
  exact hg1.out
 generalize (w1.alloc (Obj.cells #[Value.int IntKind.i64 0, Value.string { data := #[] }, Value.string { data := #[] }, Value.string { data := #[] }, Value.string { data := #[] }, Value.string { data := #[] }, Value.slice none 0 0] 33)).setRow w1.heap.size (cellsO .nil p).toArray = W at hg hbW hgW ⊢
 have h0 : Hid (ListW w W W S l w1.heap.size L) := ⟨p, _, by rw [List.drop_eq_nil_of_le (by rw [HL.out]; exact Nat.le_refl _)]; exact hg, by rw [List.drop_eq_nil_of_le (by rw [HL.out]; exact Nat.le_refl _)]; exact hp', Below.refl _ _⟩
 have HGW := qh9 hgW
 generalize w1.heap.size = g at h12 h0 ⊢
 clear hg hgW hp hp' hg1 hbw
 have h13 : w.heap.size < g := by omega
 go_wp2_with fail
 go_loopw [4] (fun v wr => ∃ k : Nat, k ≤ L ∧ v = .int .i64 ((k : Int) - 1) ∧ Hid (ListW w W wr S l g k)) (fun v _ => (intOf v + 1).toNat)
 case atStart => exact ⟨L, Nat.le_refl _, rfl, h0⟩
 case round =>
  clear h0
  obtain ⟨k, hk, rfl, hE⟩ := hrel
  obtain ⟨wo, rfl⟩ : ∃ wo : World, wo = wr := ⟨_, rfl⟩
  obtain ⟨q, t, hh, hq, hbl⟩ := hE.out
  clear hE
  have hwg : w.heap.size ≤ g := by omega
  have hbwo := hbW.trans (hbl.mono hwg)
  have hgl : g < wo.heap.size := by
   rcases Nat.lt_or_ge g wo.heap.size with h | h
   · exact h
   · rw [Array.getElem?_eq_none h] at hh; cases hh
  obtain ⟨y0, y1, y2, y3, y4, y5, eq⟩ := cells7 (Ob.list (l.drop k)) q
  have m0 : wo.cell? ⟨g, 0, none⟩ = some y0 := by rw [cell_of_row _ _ _ _ _ _ hh, eq]; rfl
  have m1 : wo.cell? ⟨g, 1, none⟩ = some y1 := by rw [cell_of_row _ _ _ _ _ _ hh, eq]; rfl
  have m2 : wo.cell? ⟨g, 2, none⟩ = some y2 := by rw [cell_of_row _ _ _ _ _ _ hh, eq]; rfl
  have m3 : wo.cell? ⟨g, 3, none⟩ = some y3 := by rw [cell_of_row _ _ _ _ _ _ hh, eq]; rfl
  have m4 : wo.cell? ⟨g, 4, none⟩ = some y4 := by rw [cell_of_row _ _ _ _ _ _ hh, eq]; rfl
  have m5 : wo.cell? ⟨g, 5, none⟩ = some y5 := by rw [cell_of_row _ _ _ _ _ _ hh, eq]; rfl
  have m6 : wo.cell? ⟨g, 6, none⟩ = some q := by rw [cell_of_row _ _ _ _ _ _ hh, eq]; rfl
  have HH := qh9 hh
  clear hh
  have hIn : In (fun b => S b ∨ (g < b ∧ b < wo.heap.size)) wo := fun b hb => by
   rcases hb with hb | ⟨_, hb⟩
   · have := hS b hb; omega
   · exact hb
  by_cases hk0 : 0 < k
  · obtain ⟨b, o, rfl, hb, hobs⟩ := HA.out (by omega)
    have hkl : k - 1 < l.length := by rw [HL.out]; omega
    obtain ⟨pa, hpa, hcell⟩ := hobs.get hkl
    have hbl0 : b < w.heap.size := hS b hb
    have hpa' := (hpa.below hS hbwo).more (S' := fun b => S b ∨ (g < b ∧ b < wo.heap.size)) fun _ h => .inl h
    have hld := qh9 (list_drop hkl)
    have call : ∀ wd, Below wo.heap.size wo wd → Calls Tryz.prog 65 #[vO l[k - 1] pa, vO (Ob.list (l.drop k)) q] wd (RetO wd (fun b => S b ∨ (g < b ∧ b < wo.heap.size)) (.cons l[k - 1] (Ob.list (l.drop k)))) :=
     fun wd hbd => consO _ _ pa q wd _ (hIn.later hbd.size) (hpa'.below hIn hbd) (hq.below hIn hbd)
    obtain ⟨x0, x1, x2, x3, x4, x5, ea⟩ := cells7 l[k - 1] pa
    rw [ea] at hcell
    have l0 := (hbwo.cell (p := ⟨b, o + (k - 1) * 7 + 0, none⟩) hbl0).trans (hcell 0 _ rfl)
    have l1 := (hbwo.cell (p := ⟨b, o + (k - 1) * 7 + 1, none⟩) hbl0).trans (hcell 1 _ rfl)
    have l2 := (hbwo.cell (p := ⟨b, o + (k - 1) * 7 + 2, none⟩) hbl0).trans (hcell 2 _ rfl)
    have l3 := (hbwo.cell (p := ⟨b, o + (k - 1) * 7 + 3, none⟩) hbl0).trans (hcell 3 _ rfl)
    have l4 := (hbwo.cell (p := ⟨b, o + (k - 1) * 7 + 4, none⟩) hbl0).trans (hcell 4 _ rfl)
    have l5 := (hbwo.cell (p := ⟨b, o + (k - 1) * 7 + 5, none⟩) hbl0).trans (hcell 5 _ rfl)
    have l6 := (hbwo.cell (p := ⟨b, o + (k - 1) * 7 + 6, none⟩) hbl0).trans (hcell 6 _ rfl)
    rw [Nat.add_zero] at l0
    unfold vO at call
    rw [ea, eq] at call
    have CALL := qh9 call
    have EQ := qh9 eq
    clear call hcell hobs hpa hpa' ea eq
    have hp0 : (0 : Int) ≤ (k : Int) - 1 := by omega
    have hp1 : (k : Int) - 1 < L := by omega
    go_wp2_with fail
    go_still_tail 5, (by kernel_rfl)
    change wpList _ _ _ _ _ wo.drew
    have hbd : Below wo.heap.size wo wo.drew := (Below.refl _ _).drew
    generalize wo.drew = wd at hbd ⊢
    clear l0 l1 l2 l3 l4 l5 l6 m0 m1 m2 m3 m4 m5 m6
    go_wp2_with fail
    refine (CALL.out wd hbd).mono ?_
    rintro e w3 ⟨p3, rfl, hp3, hb3⟩
    have h34 := hb3.size
    have h45 := hbd.size
    have hbe := hbd.trans (hb3.mono hbd.size)
    have hh3 := qh9 ((hbe.block g hgl).trans HH.out)
    go_wp2_with (refine storeV (w1 := w3) rfl (.tmp 3) (.tmp 18) rfl g _ _ rfl rfl hp3 _ _ hh3.out (by simp [cellsO_length]) ?_)
    go_roundw
    case rel =>
     refine ⟨k - 1, by omega, by congr 1; omega, ⟨p3, t, ?_, ?_, below_setRowO (hbl.trans (hbe.mono (by omega))) (Nat.le_refl _) _⟩⟩
     · rw [hld.out, show k - 1 + 1 = k from by omega]
       exact setRow_heap _ _ _ _ _ _ hh3.out
     · rw [hld.out, show k - 1 + 1 = k from by omega]
       refine (hp3.setRow g (fun h => ?_) _).more (fun b h => ?_)
       · rcases h with (h | ⟨h, _⟩) | ⟨h, _⟩
         · have := hS g h; omega
         · omega
         · omega
       · rw [size_setRow]
         rcases h with (h | ⟨h, h2⟩) | ⟨h, h2⟩
         · exact .inl h
         · exact .inr ⟨h, by omega⟩
         · exact .inr ⟨by omega, h2⟩
    case measure => simp [intOf]; omega
  · have hkz : k = 0 := by omega
    subst hkz
    have hh3 := qh9 ((hbl.block w.heap.size (by omega)).trans HGW.out)
    have ev := qh9 (show Value.agg #[y0, y1, y2, y3, y4, y5, q] = vO (Ob.list (l.drop 0)) q from by unfold vO; rw [eq])
    have HQ := qh9 hq
    have hbx := qh9 hbwo
    clear eq hq hbl hbwo
    go_wp2_with (refine storeV (w1 := wo) rfl (.tmp 2) (.tmp 19) rfl w.heap.size _ _ rfl ev.out HQ.out _ _ hh3.out rfl ?_)
    exact retV rfl rfl hh3.out HQ.out (fun h => by
     rcases h with h | ⟨h, _⟩
     · have := hS _ h; omega
     · omega) (fun b hb => by
     rcases hb with hb | ⟨h1, h2⟩
     · exact .inl hb
     · exact .inr ⟨by omega, h2⟩) (Nat.le_refl _) hbx.out
theorem symP (p n : ByteArray) (w : World) (S : Nat → Prop) : Calls Tryz.prog 110 #[.agg #[.string p, .string n]] w (RetO w S (.sym (LA p) (LA n))) := by
 obtain ⟨p, rfl⟩ : ∃ l, p = BA l := ⟨LA p, (BA_LA p).symm⟩
 obtain ⟨n, rfl⟩ : ∃ l, n = BA l := ⟨LA n, (BA_LA n).symm⟩
 go_enter Tryz.func110, Tryz.ntmps110
 go_wp2_with fail
 refine retO rfl rfl (heap_alloc2_new w _ _) rfl ⟨.slice none 0 0, ?_, rfl, ?_⟩
 · rfl
 · exact Below.alloc (Below.alloc (Below.refl _ _) (Nat.le_refl _) _) (by simp) _
theorem consRawP (a0 a1 a2 a3 a4 a5 a6 b0 b1 b2 b3 b4 b5 b6 : Value) (w : World) :
 Calls Tryz.prog 112 #[.agg #[a0, a1, a2, a3, a4, a5, a6], .agg #[b0, b1, b2, b3, b4, b5, b6]] w fun e w' =>
  ∃ g, e = .returned (.agg #[.int .i64 4, e0, e0, e0, e0, e0, .slice (some ⟨g, 0, none⟩) 2 2]) ∧ w.heap.size ≤ g ∧ g < w'.heap.size ∧
   w'.heap[g]? = some (.cells #[a0, a1, a2, a3, a4, a5, a6, b0, b1, b2, b3, b4, b5, b6] 33 (0, 0)) ∧ Below w.heap.size w w' := by
 go_enter Tryz.func112, Tryz.ntmps112
 go_wp2_with fail
 refine retO rfl rfl (g := w.heap.size + 1 + 1) (t := 33) (fr := (0, 0)) ?_ rfl ⟨w.heap.size + 1 + 1 + 1, rfl, by omega, ?_, ?_, ?_⟩
 · rw [Below.heap_alloc _ _ _ (by simp)]
   exact heap_new_at (by simp)
 · simp
 · exact heap_new_at (by simp)
 · exact Below.alloc (Below.alloc (Below.alloc (Below.alloc (Below.refl _ _) (Nat.le_refl _) _) (by simp) _) (by simp; omega) _) (by simp; omega) _
theorem consP (a d : Ob) (pa pd : Value) (w : World) (S : Nat → Prop) (hS : In S w) (ha : Pair w S a pa) (hd : Pair w S d pd) :
 Calls Tryz.prog 112 #[vO a pa, vO d pd] w (RetO w S (.cons a d)) := by
 obtain ⟨a0, a1, a2, a3, a4, a5, ea⟩ := cells7 a pa
 obtain ⟨b0, b1, b2, b3, b4, b5, eb⟩ := cells7 d pd
 unfold vO
 rw [ea, eb]
 refine (consRawP a0 a1 a2 a3 a4 a5 pa b0 b1 b2 b3 b4 b5 pd w).mono ?_
 rintro e w' ⟨g, rfl, hg0, hg, hh, hb⟩
 refine ⟨.slice (some ⟨g, 0, none⟩) 2 2, rfl, ⟨g, 0, 2, pa, pd, rfl, Nat.le_refl _, ⟨.inr ⟨hg0, hg⟩, _, _, hh⟩, ?_, (ha.below hS hb).more fun _ h => .inl h, (hd.below hS hb).more fun _ h => .inl h⟩, hb⟩
 intro j u hj
 rw [ea, eb] at hj
 rw [Nat.zero_add, cell_of_row w' g j _ _ _ hh, ← hj]
 simp
theorem nilP (w : World) (S : Nat → Prop) : Calls Tryz.prog 139 #[] w (RetO w S .nil) := by
 go_enter Tryz.func139, Tryz.ntmps139
 go_wp2_with fail
 refine (symP _ _ _ (fun _ => False)).mono ?_
 rintro e w2 ⟨p, rfl, hp, hb2⟩
 have h12 := hb2.size
 simp only [World.size_alloc] at h12
 have hg := qh9 ((hb2.block w.heap.size (by simp)).trans (heap_alloc_new w _))
 go_wp2_with (refine storeV (w1 := w2) rfl (.tmp 0) (.tmp 2) rfl w.heap.size _ _ rfl rfl hp _ _ hg.out rfl ?_)
 exact retV (o := .nil) rfl rfl hg.out hp (fun h => by
  rcases h with h | ⟨h, _⟩
  · exact h
  · simp at h; omega) (fun b hb => by
  rcases hb with hb | ⟨h1, h2⟩
  · exact hb.elim
  · exact .inr ⟨by simp at h1; omega, h2⟩) (Nat.le_refl _) ((Below.alloc (Below.refl _ _) (Nat.le_refl _) _).trans (hb2.mono (by simp)))
theorem listP (l : List Ob) (A : Option Addr) (c : Nat) (w : World) (S : Nat → Prop) (hS : In S w) (hc : l.length ≤ c) (hl : l.length ≤ 100000)
 (hA : 0 < l.length → ∃ b o, A = some ⟨b, o, none⟩ ∧ S b ∧ ObsAt w S b o l) :
 Calls Tryz.prog 111 #[.slice A l.length c] w (RetO w S (Ob.list l)) := by
 obtain ⟨L, hL⟩ : ∃ L, l.length = L := ⟨_, rfl⟩
 rw [hL] at hc hA hl ⊢
 have HL := qh9 hL
 have HA := qh9 hA
 clear hL hA
 go_enter Tryz.func111, Tryz.ntmps111
 go_wp2_with fail
 have hb0 : Below w.heap.size w (w.alloc (Obj.cells #[Value.int IntKind.i64 0, Value.string { data := #[] }, Value.string { data := #[] }, Value.string { data := #[] }, Value.string { data := #[] }, Value.string { data := #[] }, Value.slice none 0 0] 33)) := Below.alloc (Below.refl _ _) (Nat.le_refl _) _
 have hg0 := heap_alloc_new w (Obj.cells #[Value.int IntKind.i64 0, Value.string { data := #[] }, Value.string { data := #[] }, Value.string { data := #[] }, Value.string { data := #[] }, Value.string { data := #[] }, Value.slice none 0 0] 33)
 refine (nilP _ (fun _ => False)).mono ?_
 rintro e w1 ⟨p, rfl, hp, hb1⟩
 have h12 := hb1.size
 simp only [World.size_alloc] at h12
 have hg1 := qh9 ((hb1.block w.heap.size (by simp)).trans hg0)
 have hbw := hb0.trans (hb1.mono hb0.size)
 clear hg0 hb0 hb1
 have hp' : Pair w1 (fun _ => False) .nil p := hp
 go_wp2_with (refine storeV (w1 := w1) rfl (.tmp 3) (.tmp 5) rfl w1.heap.size .nil p rfl rfl hp _ _ (heap_alloc_new w1 _) rfl ?_)
 have hg := setRow_heap (w1.alloc (Obj.cells #[Value.int IntKind.i64 0, Value.string { data := #[] }, Value.string { data := #[] }, Value.string { data := #[] }, Value.string { data := #[] }, Value.string { data := #[] }, Value.slice none 0 0] 33)) w1.heap.size _ (cellsO .nil p).toArray _ _ (heap_alloc_new w1 _)
 have hbW := below_setRowO (Below.alloc hbw (by omega) (Obj.cells #[Value.int IntKind.i64 0, Value.string { data := #[] }, Value.string { data := #[] }, Value.string { data := #[] }, Value.string { data := #[] }, Value.string { data := #[] }, Value.slice none 0 0] 33)) (g := w1.heap.size) (by omega) (cellsO .nil p).toArray
 have hgW : ((w1.alloc (Obj.cells #[Value.int IntKind.i64 0, Value.string { data := #[] }, Value.string { data := #[] }, Value.string { data := #[] }, Value.string { data := #[] }, Value.string { data := #[] }, Value.slice none 0 0] 33)).setRow w1.heap.size (cellsO .nil p).toArray).heap[w.heap.size]? = some (Obj.cells #[Value.int IntKind.i64 0, Value.string { data := #[] }, Value.string { data := #[] }, Value.string { data := #[] }, Value.string { data := #[] }, Value.string { data := #[] }, Value.slice none 0 0] 33) := by
  rw [setRow_other _ _ _ _ (by omega), Below.heap_alloc _ _ _ (by omega)]
  exact hg1.out
 generalize (w1.alloc (Obj.cells #[Value.int IntKind.i64 0, Value.string { data := #[] }, Value.string { data := #[] }, Value.string { data := #[] }, Value.string { data := #[] }, Value.string { data := #[] }, Value.slice none 0 0] 33)).setRow w1.heap.size (cellsO .nil p).toArray = W at hg hbW hgW ⊢
 have h0 : Hid (ListW w W W S l w1.heap.size L) := ⟨p, _, by rw [List.drop_eq_nil_of_le (by rw [HL.out]; exact Nat.le_refl _)]; exact hg, by rw [List.drop_eq_nil_of_le (by rw [HL.out]; exact Nat.le_refl _)]; exact hp', Below.refl _ _⟩
 have HGW := qh9 hgW
 generalize w1.heap.size = g at h12 h0 ⊢
 clear hg hgW hp hp' hg1 hbw
 have h13 : w.heap.size < g := by omega
 go_wp2_with fail
 go_loopw [8] (fun v wr => ∃ i : Nat, i ≤ L ∧ v = .int .i64 (i : Int) ∧ Hid (ListW w W wr S l g (L - i))) (fun v _ => L - (intOf v).toNat)
 case atStart => exact ⟨0, Nat.zero_le _, rfl, h0⟩
 case round =>
  clear h0
  obtain ⟨i, hi, rfl, hE⟩ := hrel
  obtain ⟨k, hkL, hk⟩ : ∃ k, L = i + k ∧ k ≤ L := ⟨L - i, by omega, by omega⟩
  have hki := qh9 (show L - i = k from by omega)
  rw [hki.out] at hE
  obtain ⟨wo, rfl⟩ : ∃ wo : World, wo = wr := ⟨_, rfl⟩
  obtain ⟨q, t, hh, hq, hbl⟩ := hE.out
  clear hE
  have hwg : w.heap.size ≤ g := by omega
  have hbwo := hbW.trans (hbl.mono hwg)
  have hgl : g < wo.heap.size := by
   rcases Nat.lt_or_ge g wo.heap.size with h | h
   · exact h
   · rw [Array.getElem?_eq_none h] at hh; cases hh
  obtain ⟨y0, y1, y2, y3, y4, y5, eq⟩ := cells7 (Ob.list (l.drop k)) q
  have m0 : wo.cell? ⟨g, 0, none⟩ = some y0 := by rw [cell_of_row _ _ _ _ _ _ hh, eq]; rfl
  have m1 : wo.cell? ⟨g, 1, none⟩ = some y1 := by rw [cell_of_row _ _ _ _ _ _ hh, eq]; rfl
  have m2 : wo.cell? ⟨g, 2, none⟩ = some y2 := by rw [cell_of_row _ _ _ _ _ _ hh, eq]; rfl
  have m3 : wo.cell? ⟨g, 3, none⟩ = some y3 := by rw [cell_of_row _ _ _ _ _ _ hh, eq]; rfl
  have m4 : wo.cell? ⟨g, 4, none⟩ = some y4 := by rw [cell_of_row _ _ _ _ _ _ hh, eq]; rfl
  have m5 : wo.cell? ⟨g, 5, none⟩ = some y5 := by rw [cell_of_row _ _ _ _ _ _ hh, eq]; rfl
  have m6 : wo.cell? ⟨g, 6, none⟩ = some q := by rw [cell_of_row _ _ _ _ _ _ hh, eq]; rfl
  have HH := qh9 hh
  clear hh
  have hIn : In (fun b => S b ∨ (g < b ∧ b < wo.heap.size)) wo := fun b hb => by
   rcases hb with hb | ⟨_, hb⟩
   · have := hS b hb; omega
   · exact hb
  by_cases hk0 : 0 < k
  · obtain ⟨b, o, rfl, hb, hobs⟩ := HA.out (by omega)
    have hkl : k - 1 < l.length := by rw [HL.out]; omega
    obtain ⟨pa, hpa, hcell⟩ := hobs.get hkl
    have hbl0 : b < w.heap.size := hS b hb
    have hpa' := (hpa.below hS hbwo).more (S' := fun b => S b ∨ (g < b ∧ b < wo.heap.size)) fun _ h => .inl h
    have hld := qh9 (list_drop hkl)
    have call : ∀ wd, Below wo.heap.size wo wd → Calls Tryz.prog 112 #[vO l[k - 1] pa, vO (Ob.list (l.drop k)) q] wd (RetO wd (fun b => S b ∨ (g < b ∧ b < wo.heap.size)) (.cons l[k - 1] (Ob.list (l.drop k)))) :=
     fun wd hbd => consP _ _ pa q wd _ (hIn.later hbd.size) (hpa'.below hIn hbd) (hq.below hIn hbd)
    obtain ⟨x0, x1, x2, x3, x4, x5, ea⟩ := cells7 l[k - 1] pa
    rw [ea] at hcell
    have l0 := (hbwo.cell (p := ⟨b, o + (k - 1) * 7 + 0, none⟩) hbl0).trans (hcell 0 _ rfl)
    have l1 := (hbwo.cell (p := ⟨b, o + (k - 1) * 7 + 1, none⟩) hbl0).trans (hcell 1 _ rfl)
    have l2 := (hbwo.cell (p := ⟨b, o + (k - 1) * 7 + 2, none⟩) hbl0).trans (hcell 2 _ rfl)
    have l3 := (hbwo.cell (p := ⟨b, o + (k - 1) * 7 + 3, none⟩) hbl0).trans (hcell 3 _ rfl)
    have l4 := (hbwo.cell (p := ⟨b, o + (k - 1) * 7 + 4, none⟩) hbl0).trans (hcell 4 _ rfl)
    have l5 := (hbwo.cell (p := ⟨b, o + (k - 1) * 7 + 5, none⟩) hbl0).trans (hcell 5 _ rfl)
    have l6 := (hbwo.cell (p := ⟨b, o + (k - 1) * 7 + 6, none⟩) hbl0).trans (hcell 6 _ rfl)
    rw [Nat.add_zero] at l0
    unfold vO at call
    rw [ea, eq] at call
    have CALL := qh9 call
    have EQ := qh9 eq
    clear call hcell hobs hpa hpa' ea eq
    have hp0 : (0 : Int) ≤ (L : Int) - 1 - (i : Int) := by omega
    have hp1 : (L : Int) - 1 - (i : Int) < L := by omega
    have hp2 : ((L : Int) - 1 - (i : Int)).toNat = k - 1 := by omega
    have hp3 : (i : Int) < L := by omega
    have hp6 : (i : Int) ≤ (L : Int) - 1 := by omega
    have hp4 : IntKind.i64.wrap ((L : Int) - 1) = (L : Int) - 1 := IntWalk.i64_in _ (by omega)
    have hp5 : IntKind.i64.wrap ((L : Int) - 1 - (i : Int)) = (L : Int) - 1 - (i : Int) := IntWalk.i64_in _ (by omega)
    have hkL' : 0 < k ∧ i + k ≤ L ∧ L ≤ i + k := by omega
    clear hkL
    go_wp2_with fail
    go_still_tail 9, (by kernel_rfl)
    change wpList _ _ _ _ _ wo.drew
    have hbd : Below wo.heap.size wo wo.drew := (Below.refl _ _).drew
    generalize wo.drew = wd at hbd ⊢
    clear l0 l1 l2 l3 l4 l5 l6 m0 m1 m2 m3 m4 m5 m6
    go_wp2_with fail
    refine (CALL.out wd hbd).mono ?_
    rintro e w3 ⟨p3, rfl, hp3, hb3⟩
    have h34 := hb3.size
    have h45 := hbd.size
    have hbe := hbd.trans (hb3.mono hbd.size)
    have hh3 := qh9 ((hbe.block g hgl).trans HH.out)
    go_wp2_with (refine storeV (w1 := w3) rfl (.tmp 3) (.tmp 20) rfl g _ _ rfl rfl hp3 _ _ hh3.out (by simp [cellsO_length]) ?_)
    go_roundw
    case rel =>
     refine ⟨i + 1, by omega, by go_num, ⟨p3, t, ?_, ?_, below_setRowO (hbl.trans (hbe.mono (by omega))) (Nat.le_refl _) _⟩⟩
     · rw [show L - (i + 1) = k - 1 from by omega, hld.out, show k - 1 + 1 = k from by omega]
       exact setRow_heap _ _ _ _ _ _ hh3.out
     · rw [show L - (i + 1) = k - 1 from by omega, hld.out, show k - 1 + 1 = k from by omega]
       refine (hp3.setRow g (fun h => ?_) _).more (fun b h => ?_)
       · rcases h with (h | ⟨h, _⟩) | ⟨h, _⟩
         · have := hS g h; omega
         · omega
         · omega
       · rw [size_setRow]
         rcases h with (h | ⟨h, h2⟩) | ⟨h, h2⟩
         · exact .inl h
         · exact .inr ⟨h, by omega⟩
         · exact .inr ⟨by omega, h2⟩
    case measure => simp [intOf]; omega
  · have hkz : k = 0 := by omega
    subst hkz
    have hn : ¬ (i : Int) < L := by omega
    clear hkL
    have hh3 := qh9 ((hbl.block w.heap.size (by omega)).trans HGW.out)
    have ev := qh9 (show Value.agg #[y0, y1, y2, y3, y4, y5, q] = vO (Ob.list (l.drop 0)) q from by unfold vO; rw [eq])
    have HQ := qh9 hq
    have hbx := qh9 hbwo
    clear eq hq hbl hbwo
    go_wp2_with (refine storeV (w1 := wo) rfl (.tmp 2) (.tmp 22) rfl w.heap.size _ _ rfl ev.out HQ.out _ _ hh3.out rfl ?_)
    exact retV rfl rfl hh3.out HQ.out (fun h => by
     rcases h with h | ⟨h, _⟩
     · have := hS _ h; omega
     · omega) (fun b hb => by
     rcases hb with hb | ⟨h1, h2⟩
     · exact .inl hb
     · exact .inr ⟨by omega, h2⟩) (Nat.le_refl _) hbx.out
def Bd (k : Nat) (q : Rat) : Prop := q.num.natAbs < 10 ^ k ∧ q.den < 10 ^ k
theorem bd_nt {k : Nat} {q : Rat} (h : Bd k q) : (nt q).size ≤ k + 2 := by unfold nt; rw [BA_size]; exact text_length h.1
theorem bd_dt {k : Nat} {q : Rat} (h : Bd k q) : (dt q).size ≤ k + 2 := by unfold dt; rw [BA_size]; exact text_length h.2
theorem pow_le {j k : Nat} (h : j ≤ k) : 10 ^ j ≤ 10 ^ k := Nat.pow_le_pow_right (by omega) h
theorem Bd.more {j k : Nat} {q : Rat} (h : Bd j q) (hk : j ≤ k) : Bd k q := ⟨Nat.lt_of_lt_of_le h.1 (pow_le hk), Nat.lt_of_lt_of_le h.2 (pow_le hk)⟩
theorem bd_divInt {k : Nat} {n d : Int} (hn : n.natAbs < 10 ^ k) (hd : d.natAbs < 10 ^ k) (hk : 0 < k) : Bd k (Rat.divInt n d) := by
 by_cases h0 : d = 0
 · subst h0
   rw [Rat.divInt_zero]
   exact ⟨Nat.pow_pos (by omega), Nat.lt_of_lt_of_le (show 1 < 10 ^ 1 by decide) (pow_le hk)⟩
 · constructor
   · rw [Rat.num_divInt]
     refine Nat.lt_of_le_of_lt (Int.natAbs_ediv_le_natAbs _ _) ?_
     rw [Int.natAbs_mul, Int.natAbs_sign_of_ne_zero h0, Nat.one_mul]
     exact hn
   · rw [Rat.den_divInt, if_neg h0]
     exact Nat.lt_of_le_of_lt (Nat.div_le_self _ _) hd
theorem bd_quo {k : Nat} {l m : List UInt8} (hl : l.length ≤ k) (hm : m.length ≤ k) (hk : 0 < k) : Bd k (quo l m) := by
 unfold quo
 refine bd_divInt ?_ ?_ hk
 · rw [val_natAbs]; exact Nat.lt_of_lt_of_le (mag_lt l) (pow_le (by omega))
 · rw [val_natAbs]; exact Nat.lt_of_lt_of_le (mag_lt m) (pow_le (by omega))
theorem lt_pow_mul {a b j k : Nat} (ha : a < 10 ^ j) (hb : b < 10 ^ k) : a * b < 10 ^ (j + k) := by
 rw [Nat.pow_add]
 exact Nat.mul_lt_mul'' ha hb
theorem bd_int {k : Nat} {n : Int} (hn : n.natAbs < 10 ^ k) (hk : 0 < k) : Bd k (n : Rat) := by
 rw [← q_int]
 exact bd_divInt hn (Nat.lt_of_lt_of_le (show 1 < 10 ^ 1 by decide) (pow_le hk)) hk
def Ob.bd (k : Nat) : Ob → Prop
 | .num q => Bd k q
 | .str s => s.length ≤ 2 * k + 20
 | .sym p n => SyOk p n
 | .cons a d => a.bd k ∧ d.bd k
theorem Ob.bd_more {j k : Nat} (hk : j ≤ k) : ∀ {o : Ob}, o.bd j → o.bd k
 | .num _, h => h.more hk
 | .str s, h => by
  have h1 : s.length ≤ 2 * j + 20 := h
  show s.length ≤ 2 * k + 20
  omega
 | .sym _ _, h => h
 | .cons _ _, h => ⟨Ob.bd_more hk h.1, Ob.bd_more hk h.2⟩
def eqI (a b : Ob) : Int := if a = b then 0 else 1
def ordX (x : Bool) (a b : Ob) : Int := if x then eqI a b else ordO a b
theorem ordX_cons (x : Bool) (a d a' d' : Ob) : ordX x (.cons a d) (.cons a' d') = next (ordX x a a') (ordX x d d') := by
 unfold ordX
 cases x
 · rfl
 · simp only [if_true]
   unfold eqI next
   by_cases h1 : a = a'
   · subst h1; simp
   · simp [h1]
theorem ordX_zero (x : Bool) (a b : Ob) : ordX x a b = 0 ↔ a = b := by
 unfold ordX
 cases x
 · exact ordO_zero a b
 · simp only [if_true]
   unfold eqI
   split
   · rename_i h; exact ⟨fun _ => h, fun _ => rfl⟩
   · rename_i h; exact ⟨fun e => by omega, fun e => absurd e h⟩
def Ob.isCons : Ob → Bool
 | .cons _ _ => true
 | _ => false
def owp (x : Bool) (a b : Ob) : Int := if a.isCons && b.isCons then 0 else ordX x a b
def At (w : World) (S : Nat → Prop) (o : Ob) (b k : Nat) (p : Value) : Prop :=
 (S b ∧ Plain w b) ∧ (∀ j u, (cellsO o p)[j]? = some u → w.cell? ⟨b, k + j, none⟩ = some u) ∧ Pair w S o p
theorem At.keep {w w' : World} {S S' : Nat → Prop} (hS : ∀ b, S b → S' b) (hk : ∀ b, S b → w'.heap[b]? = w.heap[b]?) {o : Ob} {b k : Nat} {p : Value} (h : At w S o b k p) : At w' S' o b k p :=
 ⟨⟨hS b h.1.1, h.1.2.keep (hk b h.1.1)⟩, fun j u hj => (World.cell?_of_block (a := ⟨b, k + j, none⟩) (hk b h.1.1)).trans (h.2.1 j u hj), h.2.2.keep hS hk⟩
theorem At.below {w w' : World} {S : Nat → Prop} {B : Nat} {o : Ob} {b k : Nat} {p : Value} (h : At w S o b k p) (hS : ∀ b, S b → b < B) (hb : Below B w w') : At w' S o b k p := h.keep (fun _ h => h) fun q hq => hb.block q (hS q hq)
theorem At.cells {w : World} {S : Nat → Prop} {o : Ob} {b k : Nat} {p : Value} (h : At w S o b k p) : ∃ x0 x1 x2 x3 x4 x5, cellsO o p = [x0, x1, x2, x3, x4, x5, p] ∧
 w.cell? ⟨b, k, none⟩ = some x0 ∧ w.cell? ⟨b, k + 1, none⟩ = some x1 ∧ w.cell? ⟨b, k + 2, none⟩ = some x2 ∧ w.cell? ⟨b, k + 3, none⟩ = some x3 ∧ w.cell? ⟨b, k + 4, none⟩ = some x4 ∧ w.cell? ⟨b, k + 5, none⟩ = some x5 ∧ w.cell? ⟨b, k + 6, none⟩ = some p := by
 obtain ⟨x0, x1, x2, x3, x4, x5, e⟩ := cells7 o p
 have hc := h.2.1
 rw [e] at hc
 exact ⟨x0, x1, x2, x3, x4, x5, e, hc 0 _ rfl, hc 1 _ rfl, hc 2 _ rfl, hc 3 _ rfl, hc 4 _ rfl, hc 5 _ rfl, hc 6 _ rfl⟩
theorem At.last {w : World} {S : Nat → Prop} {o : Ob} {b k : Nat} {p : Value} (h : At w S o b k p) : w.cell? ⟨b, k + 6, none⟩ = some p := by
 obtain ⟨_, _, _, _, _, _, _, _, _, _, _, _, _, h6⟩ := h.cells; exact h6
theorem Pair.parts {w : World} {S : Nat → Prop} {a d : Ob} {p : Value} (h : Pair w S (.cons a d) p) : ∃ b o c pa pd, p = .slice (some ⟨b, o, none⟩) 2 c ∧ 2 ≤ c ∧ At w S a b o pa ∧ At w S d b (o + 7) pd := by
 obtain ⟨b, o, c, pa, pd, h1, h2, h3, h4, h5, h6⟩ := h
 refine ⟨b, o, c, pa, pd, h1, h2, ⟨h3, fun j u hj => h4 j u ?_, h5⟩, ⟨h3, fun j u hj => ?_, h6⟩⟩
 · rw [List.getElem?_append_left (by
    rcases Nat.lt_or_ge j (cellsO a pa).length with hlt | hge
    · exact hlt
    · rw [List.getElem?_eq_none hge] at hj; cases hj)]
   exact hj
 · rw [show o + 7 + j = o + (7 + j) from by omega]
   refine h4 (7 + j) u ?_
   rw [List.getElem?_append_right (by rw [cellsO_length]; omega), cellsO_length, show 7 + j - 7 = j from by omega]
   exact hj
theorem Pair.flat {w : World} {S : Nat → Prop} {o : Ob} {p : Value} (h : Pair w S o p) (ho : o.isCons = false) : p = .slice none 0 0 := by
 cases o with
 | cons a d => simp [Ob.isCons] at ho
 | _ => exact h

theorem BA_inj {l m : List UInt8} (h : BA l = BA m) : l = m := by
 have := congrArg LA h
 rwa [LA_BA, LA_BA] at this
theorem cells_inj {w : World} {S S' : Nat → Prop} : ∀ {a a' : Ob} {p p' : Value}, cellsO a p = cellsO a' p' → Pair w S a p → Pair w S' a' p' → a = a' ∧ p = p'
 | .num q, .num q', p, p', h, _, _ => by
  unfold cellsO at h
  simp only [List.cons.injEq, Value.string.injEq, and_true, true_and] at h
  exact ⟨by rw [q_ext h.1 h.2.1], h.2.2⟩
 | .str s, .str s', p, p', h, _, _ => by
  unfold cellsO at h
  simp only [List.cons.injEq, Value.string.injEq, and_true, true_and] at h
  exact ⟨by rw [BA_inj h.1], h.2⟩
 | .sym x y, .sym x' y', p, p', h, _, _ => by
  unfold cellsO at h
  simp only [List.cons.injEq, Value.string.injEq, and_true, true_and] at h
  exact ⟨by rw [BA_inj h.1, BA_inj h.2.1], h.2.2⟩
 | .cons a d, .cons a' d', p, p', h, hp, hp' => by
  unfold cellsO at h
  simp only [List.cons.injEq, and_true, true_and] at h
  subst h
  obtain ⟨b, o, c, pa, pd, rfl, h2, h3, h4, h5, h6⟩ := hp
  obtain ⟨b', o', c', pa', pd', e, h2', h3', h4', h5', h6'⟩ := hp'
  simp only [Value.slice.injEq, Option.some.injEq, Addr.mk.injEq, true_and, and_true] at e
  obtain ⟨⟨rfl, rfl⟩, rfl⟩ := e
  have key : cellsO a pa ++ cellsO d pd = cellsO a' pa' ++ cellsO d' pd' := by
   apply List.ext_getElem?
   intro j
   by_cases hj : j < 14
   · have l1 : j < (cellsO a pa ++ cellsO d pd).length := by rw [List.length_append, cellsO_length, cellsO_length]; omega
     have l2 : j < (cellsO a' pa' ++ cellsO d' pd').length := by rw [List.length_append, cellsO_length, cellsO_length]; omega
     have e1 := h4 j _ (List.getElem?_eq_getElem l1)
     have e2 := h4' j _ (List.getElem?_eq_getElem l2)
     rw [List.getElem?_eq_getElem l1, List.getElem?_eq_getElem l2, ← e1, ← e2]
   · rw [List.getElem?_eq_none (by rw [List.length_append, cellsO_length, cellsO_length]; omega), List.getElem?_eq_none (by rw [List.length_append, cellsO_length, cellsO_length]; omega)]
  have k1 : cellsO a pa = cellsO a' pa' ∧ cellsO d pd = cellsO d' pd' := List.append_inj key (by rw [cellsO_length, cellsO_length])
  obtain ⟨ea, _⟩ := cells_inj k1.1 h5 h5'
  obtain ⟨ed, _⟩ := cells_inj k1.2 h6 h6'
  exact ⟨by rw [ea, ed], rfl⟩
 | .num _, .str _, _, _, h, _, _ => by simp [cellsO] at h
 | .num _, .sym _ _, _, _, h, _, _ => by simp [cellsO] at h
 | .num _, .cons _ _, _, _, h, _, _ => by simp [cellsO] at h
 | .str _, .num _, _, _, h, _, _ => by simp [cellsO] at h
 | .str _, .sym _ _, _, _, h, _, _ => by simp [cellsO] at h
 | .str _, .cons _ _, _, _, h, _, _ => by simp [cellsO] at h
 | .sym _ _, .num _, _, _, h, _, _ => by simp [cellsO] at h
 | .sym _ _, .str _, _, _, h, _, _ => by simp [cellsO] at h
 | .sym _ _, .cons _ _, _, _, h, _, _ => by simp [cellsO] at h
 | .cons _ _, .num _, _, _, h, _, _ => by simp [cellsO] at h
 | .cons _ _, .str _, _, _, h, _, _ => by simp [cellsO] at h
 | .cons _ _, .sym _ _, _, _, h, _, _ => by simp [cellsO] at h
theorem At.inj {w : World} {S S' : Nat → Prop} {a a' : Ob} {b k : Nat} {p p' : Value} (h : At w S a b k p) (h' : At w S' a' b k p') : a = a' := by
 refine (cells_inj (w := w) (List.ext_getElem? fun j => ?_) h.2.2 h'.2.2).1
 by_cases hj : j < 7
 · have l1 : j < (cellsO a p).length := by rw [cellsO_length]; omega
   have l2 : j < (cellsO a' p').length := by rw [cellsO_length]; omega
   have e1 := h.2.1 j _ (List.getElem?_eq_getElem l1)
   have e2 := h'.2.1 j _ (List.getElem?_eq_getElem l2)
   rw [List.getElem?_eq_getElem l1, List.getElem?_eq_getElem l2, ← e1, ← e2]
 · rw [List.getElem?_eq_none (by rw [cellsO_length]; omega), List.getElem?_eq_none (by rw [cellsO_length]; omega)]

theorem isConsP (a : Ob) (b k : Nat) (p : Value) (w : World) (S : Nat → Prop) (h : At w S a b k p) :
 Calls Tryz.prog 162 #[.pointer (some ⟨b, k, none⟩)] w fun e w' => e = .returned (.bool a.isCons) ∧ w = w' := by
 obtain ⟨x0, x1, x2, x3, x4, x5, e, l0, l1, l2, l3, l4, l5, l6⟩ := h.cells
 cases a with
 | cons a d =>
  obtain ⟨b', o', c', pa, pd, rfl, hc, _, _⟩ := h.2.2.parts
  have e0 : x0 = .int .i64 4 := by simp only [cellsO, List.cons.injEq] at e; exact e.1.symm
  subst e0
  clear e l1 l2 l3 l4 l5 h
  go_enter Tryz.func162, Tryz.ntmps162
  go_wp2
  go_ret
  exact ⟨rfl, rfl⟩
 | num q =>
  have e0 : x0 = .int .i64 1 := by simp only [cellsO, List.cons.injEq] at e; exact e.1.symm
  subst e0
  clear e l1 l2 l3 l4 l5 h
  go_enter Tryz.func162, Tryz.ntmps162
  go_wp2
  go_ret
  exact ⟨rfl, rfl⟩
 | str s =>
  have e0 : x0 = .int .i64 3 := by simp only [cellsO, List.cons.injEq] at e; exact e.1.symm
  subst e0
  clear e l1 l2 l3 l4 l5 h
  go_enter Tryz.func162, Tryz.ntmps162
  go_wp2
  go_ret
  exact ⟨rfl, rfl⟩
 | sym s n =>
  have e0 : x0 = .int .i64 2 := by simp only [cellsO, List.cons.injEq] at e; exact e.1.symm
  subst e0
  clear e l1 l2 l3 l4 l5 h
  go_enter Tryz.func162, Tryz.ntmps162
  go_wp2
  go_ret
  exact ⟨rfl, rfl⟩
def RetB (w : World) (r : Bool) (e : Ending) (w' : World) : Prop := e = .returned (.bool r) ∧ Below w.heap.size w w'
theorem isNilRaw (k : Int) (s1 s2 s3 s4 s5 : ByteArray) (p : Value) (w : World) :
 Calls Tryz.prog 163 #[.agg #[.int .i64 k, .string s1, .string s2, .string s3, .string s4, .string s5, p]] w (RetB w (k == 2 && (s3.toList == lispB && s4.toList == [110, 105, 108]))) := by
 unfold lispB
 cases h1 : (k == 2) with
 | false =>
  go_enter Tryz.func163, Tryz.ntmps163
  go_wp2
  go_ret
  exact ⟨rfl, Below.alloc (Below.refl _ _) (Nat.le_refl _) _⟩
 | true =>
  cases h2 : (s3.toList == [108, 105, 115, 112]) with
  | false =>
   go_enter Tryz.func163, Tryz.ntmps163
   go_wp2
   go_ret
   exact ⟨rfl, Below.alloc (Below.refl _ _) (Nat.le_refl _) _⟩
  | true =>
   cases h3 : (s4.toList == [110, 105, 108]) with
   | false =>
    go_enter Tryz.func163, Tryz.ntmps163
    go_wp2
    go_ret
    exact ⟨rfl, Below.alloc (Below.refl _ _) (Nat.le_refl _) _⟩
   | true =>
    go_enter Tryz.func163, Tryz.ntmps163
    go_wp2
    go_ret
    exact ⟨rfl, Below.alloc (Below.refl _ _) (Nat.le_refl _) _⟩
theorem BA_toList (l : List UInt8) : (BA l).toList = l := by rw [Lib.toList_data]; unfold BA; simp
theorem cells_flat (o : Ob) (p : Value) : ∃ (k : Int) (s1 s2 s3 s4 s5 : ByteArray), cellsO o p = [.int .i64 k, .string s1, .string s2, .string s3, .string s4, .string s5, p] ∧
 (k == 2 && (s3.toList == lispB && s4.toList == [110, 105, 108])) = decide (o = .nil) ∧ (k == 1 && (s2.toList == [49])) = (match o with | .num q => decide (q.den = 1) | _ => false) := by
 cases o with
 | num q =>
  refine ⟨1, nt q, dt q, ⟨#[]⟩, ⟨#[]⟩, ⟨#[]⟩, rfl, by simp [Ob.nil], ?_⟩
  simp only [beq_self_eq_true, Bool.true_and]
  have e : (⟨#[49]⟩ : ByteArray) = BA (text 1) := by decide
  by_cases h : q.den = 1
  · rw [decide_eq_true h]; unfold dt; rw [h, BA_toList]; decide
  · rw [decide_eq_false h]
    have := beq_BA (text (q.den : Int)) [49]
    rw [BA_toList [49]] at this
    unfold dt
    rw [this, decide_eq_false]
    intro e
    have e2 := congrArg val e
    rw [val_text, show val [49] = 1 from by decide] at e2
    omega
 | str s => exact ⟨3, ⟨#[]⟩, ⟨#[]⟩, ⟨#[]⟩, ⟨#[]⟩, BA s, rfl, by simp [Ob.nil], rfl⟩
 | sym x y =>
  refine ⟨2, ⟨#[]⟩, ⟨#[]⟩, BA x, BA y, ⟨#[]⟩, rfl, ?_, rfl⟩
  have h1 := beq_BA x lispB
  have h2 := beq_BA y [110, 105, 108]
  rw [BA_toList lispB] at h1
  rw [BA_toList [110, 105, 108]] at h2
  rw [h1, h2, ← Bool.decide_and]
  simp [Ob.nil]
 | cons a d => exact ⟨4, ⟨#[]⟩, ⟨#[]⟩, ⟨#[]⟩, ⟨#[]⟩, ⟨#[]⟩, rfl, by simp [Ob.nil], rfl⟩
theorem isNilP (o : Ob) (p : Value) (w : World) : Calls Tryz.prog 163 #[vO o p] w (RetB w (decide (o = .nil))) := by
 obtain ⟨k, s1, s2, s3, s4, s5, e, e1, _⟩ := cells_flat o p
 unfold vO
 rw [e, ← e1]
 exact isNilRaw k s1 s2 s3 s4 s5 p w
def CntW (w wr : World) (S : Nat → Prop) (x : Ob) (b k : Nat) (m r : Int) : Prop := (∃ p, At w S x b k p) ∧ m + x.nodes = r ∧ w = wr

theorem countO : ∀ (N : Nat) (a : Ob) (b k : Nat) (p : Value) (m : Int) (w : World) (S : Nat → Prop), a.nodes ≤ N → At w S a b k p → 0 ≤ m → m + a.nodes ≤ 3000 →
 Calls Tryz.prog 155 #[.pointer (some ⟨b, k, none⟩), .int .i64 m] w fun e w' => e = .returned (.int .i64 (m + a.nodes)) ∧ w = w' := by
 intro N
 induction N with
 | zero => intro a b k p m w S hN; have := a.nodes_pos; omega
 | succ N IH =>
  intro a b k p m w S hN h hm hmn
  have pos := a.nodes_pos
  have IH' := qh9 IH
  clear IH
  obtain ⟨R, hR⟩ : ∃ R : Int, m + a.nodes = R := ⟨_, rfl⟩
  rw [hR] at hmn ⊢
  have h0 : Hid (CntW w w S a b k m R) := ⟨⟨p, h⟩, hR, rfl⟩
  clear h hR
  go_enter Tryz.func155, Tryz.ntmps155
  go_wp2_with fail
  go_loopg [0, 1] a.nodes (fun n u v wr => ∃ (x : Ob) (b k : Nat) (m : Int), u = .pointer (some ⟨b, k, none⟩) ∧ v = .int .i64 m ∧ 0 ≤ m ∧ x.nodes ≤ n ∧ n ≤ N + 1 ∧ Hid (CntW w wr S x b k m R))
  case atStart => exact ⟨a, b, k, m, rfl, rfl, hm, Nat.le_refl _, hN, h0⟩
  case round =>
   clear h0
   obtain ⟨x, b, k, m, rfl, rfl, hm, hxn, hnN, hE⟩ := hrel
   obtain ⟨⟨p, h⟩, hR, hw⟩ := hE.out
   subst hw
   clear hE
   have posx := x.nodes_pos
   have l6 := h.last
   cases hx : x.isCons with
   | false =>
    obtain rfl := h.2.2.flat hx
    have hx1 : x.nodes = 1 := by cases x <;> first | rfl | simp [Ob.isCons] at hx
    have hR' : m + 1 = R := by omega
    have hmm : m ≤ 3000 := by omega
    have HR := qh9 hR'
    clear hR hR' hx h
    go_wp2
    go_ret
    exact ⟨ret_int HR.out, rfl⟩
   | true =>
    cases x with
    | cons a d =>
     obtain ⟨b', o', c', pa, pd, rfl, hc, hA, hD⟩ := h.2.2.parts
     have hnn : (Ob.cons a d).nodes = 1 + a.nodes + d.nodes := rfl
     have pa1 := a.nodes_pos
     have pd1 := d.nodes_pos
     have call := qh9 (IH'.out a b' o' pa (m + 1) w S (by omega) hA (by omega) (by omega))
     have hE2 : Hid (CntW w w S d b' (o' + 7) (m + 1 + a.nodes) R) := ⟨⟨pd, hD⟩, by omega, rfl⟩
     have hq : 0 ≤ m + 1 + a.nodes := by omega
     have hd : d.nodes < gk := by omega
     have hd2 : d.nodes ≤ N + 1 := by omega
     have hmm : m ≤ 3000 := by omega
     have hm3 : m + 1 ≤ 3001 := by omega
     clear hx h hA hD hR hnn
     go_wp2_with fail
     refine call.out.mono ?_
     rintro e w' ⟨rfl, rfl⟩
     go_wp2_with fail
     go_roundg d.nodes
     case measure => exact hd
     case rel => exact ⟨d, b', o' + 7, m + 1 + a.nodes, rfl, rfl, hq, Nat.le_refl _, hd2, hE2⟩
    | _ => simp [Ob.isCons] at hx
theorem nodesP (a : Ob) (p : Value) (w : World) (S : Nat → Prop) (hS : In S w) (h : Pair w S a p) (hn : a.nodes ≤ 3000) :
 Calls Tryz.prog 128 #[vO a p] w (fun e w' => e = .returned (.int .i64 a.nodes) ∧ Below w.heap.size w w') := by
 obtain ⟨x0, x1, x2, x3, x4, x5, e⟩ := cells7 a p
 have hb : Below w.heap.size w (w.alloc (.cells #[x0, x1, x2, x3, x4, x5, p] 33)) := Below.alloc (Below.refl _ _) (Nat.le_refl _) _
 have hA : At (w.alloc (.cells #[x0, x1, x2, x3, x4, x5, p] 33)) (fun b => S b ∨ b = w.heap.size) a w.heap.size 0 p := by
  refine ⟨⟨.inr rfl, _, _, heap_alloc_new w _⟩, fun j u hj => ?_, (h.below hS hb).more fun _ h => .inl h⟩
  rw [Nat.zero_add, cell_of_row _ _ _ _ _ _ (heap_alloc_new w _), ← hj, e]
  simp
 have call := qh9 (countO a.nodes a w.heap.size 0 p 0 _ _ (Nat.le_refl _) hA (by omega) (by omega))
 unfold vO
 rw [e]
 clear e hA
 go_enter Tryz.func128, Tryz.ntmps128
 go_wp2_with fail
 refine call.out.mono ?_
 rintro e w' ⟨rfl, rfl⟩
 have HB := qh9 hb
 clear hb
 go_wp2
 go_ret
 exact ⟨ret_int (by omega), HB.out⟩
def Ob.cnt : Ob → Nat → Option Nat
 | .cons _ d, n => d.cnt (n + 1)
 | x, n => if x = .nil then some n else none
theorem Ob.cnt_flat {x : Ob} (hx : x.isCons = false) (n : Nat) : x.cnt n = if x = .nil then some n else none := by
 cases x <;> first | rfl | simp [Ob.isCons] at hx
def lenV : Option Nat → Value
 | some n => .tuple #[.int .i64 n, .bool true]
 | none => .tuple #[.int .i64 0, .bool false]
def LenW (w wr : World) (S : Nat → Prop) (x y : Ob) (b k b' k' : Nat) (n : Nat) (r : Option Nat) : Prop :=
 (∃ p, At w S x b k p) ∧ (∃ p, At w S y b' k' p) ∧ x.nodes ≤ y.nodes ∧ x.cnt n = r ∧ w = wr
def RetLen (w : World) (r : Option Nat) (e : Ending) (w' : World) : Prop := e = .returned (lenV r) ∧ Below w.heap.size w w'

theorem ptr_other {w : World} {S S' : Nat → Prop} {x y : Ob} {b k b' k' : Nat} {p p' : Value} (h : At w S x b k p) (h' : At w S' y b' k' p') (hne : x ≠ y) :
 (binOp .eql 147 (.pointer (some ⟨b, k, none⟩)) (.pointer (some ⟨b', k', none⟩))).run Tryz.prog w = .ok (.bool false) w := by
 obtain ⟨_, _, h1⟩ := h.1.2
 obtain ⟨_, _, h2⟩ := h'.1.2
 have e : (Tryz.prog.info? 33).map (fun i => decide (i.size ≠ 0)) = some true := by kernel_rfl
 obtain ⟨j, hj, hs⟩ : ∃ j, Tryz.prog.info? 33 = some j ∧ j.size ≠ 0 := by
  generalize Tryz.prog.info? 33 = i at e
  cases i with
  | none => cases e
  | some j => exact ⟨j, rfl, by simpa using e⟩
 clear e
 exact run_eql_ptr_other w Tryz.underlying147 hj hs (fun e => by
  injection e with e1 e2
  subst e1 e2
  exact hne (h.inj h')) h1 h2

theorem lengthP (a : Ob) (b k : Nat) (p : Value) (w : World) (S : Nat → Prop) (hS : In S w) (h : At w S a b k p) (hn : a.nodes ≤ 100000) :
 Calls Tryz.prog 142 #[.pointer (some ⟨b, k, none⟩)] w (RetLen w (a.cnt 0)) := by
 obtain ⟨R, hR⟩ : ∃ R, a.cnt 0 = R := ⟨_, rfl⟩
 rw [hR]
 have h0 : Hid (LenW w w S a a b k b k 0 R) := ⟨⟨p, h⟩, ⟨p, h⟩, Nat.le_refl _, hR, rfl⟩
 have pos := a.nodes_pos
 clear h hR
 go_enter Tryz.func142, Tryz.ntmps142
 go_wp2_with fail
 go_loopg [0, 4, 5] a.nodes (fun g u v m wr => ∃ (x y : Ob) (b k b' k' n : Nat), u = .pointer (some ⟨b, k, none⟩) ∧ v = .int .i64 n ∧ m = .pointer (some ⟨b', k', none⟩) ∧ x.nodes ≤ g ∧ n + x.nodes ≤ 100000 ∧ Hid (LenW w wr S x y b k b' k' n R))
 case atStart => exact ⟨a, a, b, k, b, k, 0, rfl, rfl, rfl, Nat.le_refl _, by omega, h0⟩
 case round =>
  clear h0
  obtain ⟨x, y, b, k, b', k', n, rfl, rfl, rfl, hxg, hnx, hE⟩ := hrel
  obtain ⟨⟨p, h⟩, ⟨p', h'⟩, hxy, hR, hw⟩ := hE.out
  subst hw
  clear hE
  have posx := x.nodes_pos
  have l6 := h.last
  have call := qh9 (isConsP x b k p w S h)
  cases hx : x.isCons with
  | false =>
   rw [hx] at call
   obtain ⟨x0, x1, x2, x3, x4, x5, e, m0, m1, m2, m3, m4, m5, m6⟩ := h.cells
   have hc := qh9 (isNilP x p w)
   have hRR : Hid (R = if decide (x = .nil) then some n else none) := by
    show _ = _
    rw [← hR, Ob.cnt_flat hx]
    simp
   unfold vO at hc
   rw [e] at hc
   clear hR hx h h' l6 e
   generalize decide (x = Ob.nil) = t at hc hRR
   go_wp2_with fail
   refine call.out.mono ?_
   rintro e w' ⟨rfl, rfl⟩
   go_wp2_with fail
   refine hc.out.mono ?_
   rintro e w1 ⟨rfl, hb⟩
   have HB := qh9 hb
   clear hb m0 m1 m2 m3 m4 m5 m6
   cases t
   · go_wp2
     go_ret2
     exact ⟨by rw [hRR.out]; rfl, HB.out⟩
   · go_wp2
     go_ret2
     exact ⟨by rw [hRR.out]; rfl, HB.out⟩
  | true =>
   rw [hx] at call
   cases x with
   | cons a d =>
    obtain ⟨c', o', cc, pa, pd, rfl, hcc, hA, hD⟩ := h.2.2.parts
    have hnn : (Ob.cons a d).nodes = 1 + a.nodes + d.nodes := rfl
    have pa1 := a.nodes_pos
    have pd1 := d.nodes_pos
    have he := ptr_other hD h' (fun e => by subst e; omega)
    have hd : d.nodes < gk := by omega
    have hE1 : Hid (LenW w w S d y c' (o' + 7) b' k' (n + 1) R) := ⟨⟨pd, hD⟩, ⟨p', h'⟩, by omega, hR, rfl⟩
    have hE2 : Hid (LenW w w S d d c' (o' + 7) c' (o' + 7) (n + 1) R) := ⟨⟨pd, hD⟩, ⟨pd, hD⟩, Nat.le_refl _, hR, rfl⟩
    have hm : n + 1 + d.nodes ≤ 100000 := by omega
    have hn1 : (n : Int) ≤ 100000 := by omega
    clear h h' hA hD hR hxy hnn hx
    go_wp2_with fail
    refine call.out.mono ?_
    rintro e w' ⟨rfl, rfl⟩
    go_wp2_with fail
    all_goals go_roundg d.nodes
    all_goals first | exact hd | exact ⟨d, d, c', o' + 7, c', o' + 7, n + 1, rfl, by go_num, rfl, Nat.le_refl _, hm, hE2⟩ | exact ⟨d, y, c', o' + 7, b', k', n + 1, rfl, by go_num, rfl, Nat.le_refl _, hm, hE1⟩
   | _ => simp [Ob.isCons] at hx
theorem Ob.items_eq : ∀ {a : Ob} {l : List Ob}, a.items = some l → a = Ob.list l
 | .cons a d, l, h => by
  simp only [Ob.items, Option.map_eq_some_iff] at h
  obtain ⟨l', h1, rfl⟩ := h
  rw [Ob.items_eq h1]
  rfl
 | .num q, l, h => by simp [Ob.items, Ob.nil] at h
 | .str s, l, h => by simp [Ob.items, Ob.nil] at h
 | .sym x y, l, h => by
  simp only [Ob.items] at h
  split at h
  · rename_i e
    injection h with h
    subst h
    exact e
  · cases h
theorem Ob.cnt_items : ∀ (a : Ob) (n : Nat), a.cnt n = a.items.map (fun l => n + l.length)
 | .cons a d, n => by
  simp only [Ob.cnt, Ob.items, Ob.cnt_items d, Option.map_map]
  congr 1
  funext l
  simp only [Function.comp_apply, List.length_cons]
  omega
 | .num q, n => by simp [Ob.cnt, Ob.items, Ob.nil]
 | .str s, n => by simp [Ob.cnt, Ob.items, Ob.nil]
 | .sym x y, n => by
  simp only [Ob.cnt, Ob.items]
  split <;> simp
theorem Ob.list_nodes : ∀ l : List Ob, 2 * l.length + 1 ≤ (Ob.list l).nodes
 | [] => by simp [Ob.list, Ob.nodes, Ob.nil]
 | a :: l => by
  have h := Ob.list_nodes l
  have p := a.nodes_pos
  show 2 * (l.length + 1) + 1 ≤ 1 + a.nodes + (Ob.list l).nodes
  omega

theorem make_rowN {P : Program} (t e : TypeId) (i : TypeInfo) (z : Value) (ht : P.underlying t = some (.slice e)) (hi : P.info? e = some i) (hz : i.zero = some z)
 (kl kc : IntKind) (n c : Nat) (hnc : n ≤ c) (hbytes : i.bytes * c ≤ 281474976710656) (h63 : c ≤ 9223372036854775807) (w : World) :
 (Instr.makeSlice t (.int kl (n : Int)) (.int kc (c : Int))).run P w = .ok (.slice (some ⟨w.heap.size, 0, none⟩) n c) (w.alloc (.cells (madeCells z.cells (c * i.size)) e)) := by
 have hb : (i.bytes : Int) * (c : Int) ≤ 281474976710656 := by
  have h : ((i.bytes * c : Nat) : Int) ≤ 281474976710656 := by omega
  rwa [Int.natCast_mul] at h
 have hr := run_make (P := P) w t e i z ht hi hz kl kc n c (by omega) (by omega) hb (by omega)
 simp only [Int.toNat_natCast] at hr
 exact hr
theorem info_of {P : Program} {t : TypeId} {z : Value} {a b : Nat} (h : (P.info? t).map (fun i => (i.zero, i.size, i.bytes)) = some (some z, a, b)) : ∃ i, P.info? t = some i ∧ i.zero = some z ∧ i.size = a ∧ i.bytes = b := by
 generalize P.info? t = x at h ⊢
 cases x with
 | none => cases h
 | some j =>
  simp only [Option.map_some, Option.some.injEq, Prod.mk.injEq] at h
  exact ⟨j, rfl, h.1, h.2.1, h.2.2⟩
def zeroO : Value := .agg #[.int .i64 0, e0, e0, e0, e0, e0, .slice none 0 0]
theorem makeO (n : Nat) (h : n ≤ 100000) (w : World) : ∃ cs : Array Value, cs.size = n * 7 ∧
 (Instr.makeSlice 31 (.int .i64 (n : Int)) (.int .i64 (n : Int))).run Tryz.prog w = .ok (.slice (some ⟨w.heap.size, 0, none⟩) n n) (w.alloc (.cells cs 33)) := by
 obtain ⟨i, hi, hz, hs, hb⟩ := info_of (P := Tryz.prog) (t := 33) (z := zeroO) (a := 7) (b := 112) (by kernel_rfl)
 refine ⟨madeCells zeroO.cells (n * i.size), ?_, make_rowN _ _ i zeroO Tryz.underlying31 hi hz .i64 .i64 n n (Nat.le_refl _) (by rw [hb]; omega) (by omega) w⟩
 rw [hs]
 simp [madeCells]
theorem setCells_other (g k : Nat) (h : k ≠ g) : ∀ (vs : List Value) (o : Nat) (w : World), (w.setCells g o vs).heap[k]? = w.heap[k]?
 | [], _, _ => rfl
 | v :: r, o, w => (setCells_other g k h r (o + 1) _).trans (Below.heap_setCell w ⟨g, o, none⟩ v k h)
theorem setCells_size (g : Nat) : ∀ (vs : List Value) (o : Nat) (w : World), (w.setCells g o vs).heap.size = w.heap.size
 | [], _, _ => rfl
 | v :: r, o, w => (setCells_size g r (o + 1) _).trans (by simp [World.setCell])
theorem setCells_below {B g : Nat} {w0 : World} (hg : B ≤ g) : ∀ (vs : List Value) (o : Nat) (w : World), Below B w0 w → Below B w0 (w.setCells g o vs)
 | [], _, _, h => h
 | v :: r, o, w, h => setCells_below hg r (o + 1) _ (h.setCell hg v)

def RetIt (w : World) (S : Nat → Prop) (r : Option (List Ob)) (e : Ending) (w' : World) : Prop :=
 Below w.heap.size w w' ∧ match r with
 | some l => ∃ g, e = .returned (.tuple #[.slice (some ⟨g, 0, none⟩) l.length l.length, .bool true]) ∧ ObsAt w' S g 0 l ∧ w.heap.size ≤ g ∧ g < w'.heap.size
 | none => e = .returned (.tuple #[.slice none 0 0, .bool false])
def ItW (w wr : World) (S : Nat → Prop) (l : List Ob) (g0 g1 i : Nat) : Prop :=
 Below w.heap.size w wr ∧ (∃ p t, wr.heap[g0]? = some (.cells (cellsO (Ob.list (l.drop i)) p).toArray t (0, 0)) ∧ Pair wr S (Ob.list (l.drop i)) p) ∧ ObsAt wr S g1 0 (l.take i) ∧ wr.there g1 0 (l.length * 7) ∧ g1 < wr.heap.size

theorem obsAt_keep {w w' : World} {S : Nat → Prop} {g : Nat} (hk : ∀ b, S b → w'.heap[b]? = w.heap[b]?) : ∀ {l : List Ob} {o : Nat}, (∀ j u, o ≤ j → j < o + l.length * 7 → w.cell? ⟨g, j, none⟩ = some u → w'.cell? ⟨g, j, none⟩ = some u) → ObsAt w S g o l → ObsAt w' S g o l
 | [], _, _, _ => by unfold ObsAt; trivial
 | a :: l, o, hc, h => by
  unfold ObsAt at h ⊢
  obtain ⟨⟨p, h1, h2⟩, h3⟩ := h
  refine ⟨⟨p, h1.keep (fun _ h => h) hk, fun j u hj => hc (o + j) u (by omega) ?_ (h2 j u hj)⟩, obsAt_keep hk (fun j u h1 h2 h3 => hc j u (by omega) (by simp only [List.length_cons]; omega) h3) h3⟩
  have : j < 7 := by
   rw [← cellsO_length a p]
   rcases Nat.lt_or_ge j (cellsO a p).length with hlt | hge
   · exact hlt
   · rw [List.getElem?_eq_none hge] at hj; cases hj
  simp only [List.length_cons]
  omega
theorem obsAt_snoc {w : World} {S : Nat → Prop} {g : Nat} {a : Ob} {p : Value} (hp : Pair w S a p) : ∀ {l : List Ob} {o : Nat}, ObsAt w S g o l → (∀ j u, (cellsO a p)[j]? = some u → w.cell? ⟨g, o + l.length * 7 + j, none⟩ = some u) → ObsAt w S g o (l ++ [a])
 | [], o, h, hc => by
  show ObsAt w S g o [a]
  unfold ObsAt
  exact ⟨⟨p, hp, by simpa using hc⟩, by unfold ObsAt; trivial⟩
 | b :: l, o, h, hc => by
  show ObsAt w S g o (b :: (l ++ [a]))
  unfold ObsAt at h ⊢
  refine ⟨h.1, obsAt_snoc hp h.2 fun j u hj => ?_⟩
  rw [show o + 7 + l.length * 7 + j = o + (b :: l).length * 7 + j from by simp only [List.length_cons]; omega]
  exact hc j u hj
theorem there_keep {w w' : World} {g o n : Nat} (h : w.there g o n) (hk : w'.heap[g]? = w.heap[g]?) : w'.there g o n := fun j hj => by
 have := h j hj
 rw [World.cell?_of_block (a := ⟨g, o + j, none⟩) hk, World.frozen?_of_block (a := ⟨g, o + j, none⟩) hk]
 exact this
theorem it_put {w wr : World} {S : Nat → Prop} {l : List Ob} {g0 g1 i : Nat} {a : Ob} {pa : Value} (hS : In S w) (hg0 : w.heap.size ≤ g0) (hg1 : w.heap.size ≤ g1) (h01 : g0 ≠ g1) (hil : i < l.length) (h : ItW w wr S l g0 g1 i) (hpa : Pair wr S l[i] pa) :
 Below w.heap.size w (wr.setCells g1 (i * 7) (cellsO l[i] pa)) ∧ ObsAt (wr.setCells g1 (i * 7) (cellsO l[i] pa)) S g1 0 (l.take (i + 1)) ∧ (wr.setCells g1 (i * 7) (cellsO l[i] pa)).there g1 0 (l.length * 7) := by
 obtain ⟨hb, _, ho, ht, hlt⟩ := h
 have hk : ∀ b, S b → (wr.setCells g1 (i * 7) (cellsO l[i] pa)).heap[b]? = wr.heap[b]? := fun b hs => setCells_other g1 b (by have := hS b hs; omega) _ _ _
 have hlen : (l.take i).length = i := by rw [List.length_take]; omega
 refine ⟨setCells_below hg1 _ _ _ hb, ?_, fun j hj => ?_⟩
 · rw [List.take_succ_eq_append_getElem hil]
   refine obsAt_snoc (hpa.keep (fun _ h => h) hk) (obsAt_keep hk (fun j u h1 h2 hc => ?_) ho) (fun j u hj => ?_)
   · rw [World.cell?_setCells_out _ _ _ _ _ (fun _ _ => .inl (by show j < i * 7; rw [hlen] at h2; omega))]
     exact hc
   · have hj7 : j < (cellsO l[i] pa).length := by
      rcases Nat.lt_or_ge j (cellsO l[i] pa).length with hlt | hge
      · exact hlt
      · rw [List.getElem?_eq_none hge] at hj; cases hj
     rw [hlen, Nat.zero_add, World.cell?_setCells_in _ _ _ _ (fun j hj => ?_) j hj7, ← List.getElem?_eq_getElem hj7]
     · exact hj
     · have := (ht (i * 7 + j) (by rw [cellsO_length] at hj; omega)).1
       rwa [Nat.zero_add] at this
 · refine ⟨?_, by rw [World.frozen?_setCells]; exact (ht j hj).2⟩
   by_cases hin : i * 7 ≤ 0 + j ∧ 0 + j < i * 7 + 7
   · have := World.cell?_setCells_in g1 (cellsO l[i] pa) (i * 7) wr (fun k hk => by
      have := (ht (i * 7 + k) (by rw [cellsO_length] at hk; omega)).1
      rwa [Nat.zero_add] at this) (j - i * 7) (by rw [cellsO_length]; omega)
     rw [show i * 7 + (j - i * 7) = 0 + j from by omega] at this
     rw [this]; rfl
   · rw [World.cell?_setCells_out _ _ _ _ _ (fun _ _ => by rw [cellsO_length]; show 0 + j < i * 7 ∨ i * 7 + 7 ≤ 0 + j; omega)]
     exact (ht j hj).1
theorem itemsP (a : Ob) (p : Value) (w : World) (S : Nat → Prop) (hS : In S w) (h : Pair w S a p) (hn : a.nodes ≤ 100000) :
 Calls Tryz.prog 115 #[vO a p] w (RetIt w S a.items) := by
 obtain ⟨R, hR⟩ : ∃ R, a.items = R := ⟨_, rfl⟩
 rw [hR]
 obtain ⟨x0, x1, x2, x3, x4, x5, e⟩ := cells7 a p
 have hb : Below w.heap.size w (w.alloc (.cells #[x0, x1, x2, x3, x4, x5, p] 33)) := Below.alloc (Below.refl _ _) (Nat.le_refl _) _
 have hg := heap_alloc_new w (.cells #[x0, x1, x2, x3, x4, x5, p] 33)
 have hA : At (w.alloc (.cells #[x0, x1, x2, x3, x4, x5, p] 33)) (fun b => S b ∨ b = w.heap.size) a w.heap.size 0 p := by
  refine ⟨⟨.inr rfl, _, _, hg⟩, fun j u hj => ?_, (h.below hS hb).more fun _ h => .inl h⟩
  rw [Nat.zero_add, cell_of_row _ _ _ _ _ _ hg, ← hj, e]
  simp
 have hS' : In (fun b => S b ∨ b = w.heap.size) (w.alloc (.cells #[x0, x1, x2, x3, x4, x5, p] 33)) := fun b hb => by
  rcases hb with hb | rfl
  · have := hS b hb; simp; omega
  · simp
 have call := qh9 (lengthP a w.heap.size 0 p _ _ hS' hA hn)
 have EQ := qh9 e
 have HI := qh9 hR
 rw [Ob.cnt_items, hR] at call
 clear hR
 unfold vO
 rw [e]
 clear e hA hS'
 have hz : (w.alloc (.cells #[x0, x1, x2, x3, x4, x5, p] 33)).heap.size = w.heap.size + 1 := by simp
 go_enter Tryz.func115, Tryz.ntmps115
 go_wp2_with fail
 generalize w.alloc (.cells #[x0, x1, x2, x3, x4, x5, p] 33) = W at hb hg call hz ⊢
 refine call.out.mono ?_
 rintro e w1 ⟨rfl, hb1⟩
 have hz1 := hb1.size
 have hg1 := (hb1.block w.heap.size (by omega)).trans hg
 have hb2 := hb.trans (hb1.mono (by omega))
 clear call hb hg hb1
 cases R with
 | none =>
  have HB := qh9 hb2
  clear hg1 hb2 hz hz1
  simp only [lenV, Option.map_none]
  go_wp2
  go_ret2
  exact ⟨HB.out, rfl⟩
 | some l =>
  obtain rfl := Ob.items_eq HI.out
  have hl : l.length ≤ 100000 := by have := Ob.list_nodes l; omega
  obtain ⟨cs, hcs, hmk⟩ := makeO l.length hl w1
  have hp1 := (h.below hS hb2)
  obtain ⟨L, hL⟩ : ∃ L, l.length = L := ⟨_, rfl⟩
  have HL := qh9 hL
  rw [hL] at hl hmk hcs
  have hgW := heap_alloc_new w1 (.cells cs 33)
  have hbW := Below.alloc hb2 (by omega) (.cells cs 33)
  have hzW : (w1.alloc (.cells cs 33)).heap.size = w1.heap.size + 1 := by simp
  have hg0W := (Below.heap_alloc w1 (.cells cs 33) w.heap.size (by omega)).trans hg1
  simp only [lenV, Option.map_some, Nat.zero_add]
  rw [hL]
  clear hL
  go_wp2_with fail
  generalize w1.alloc (.cells cs 33) = W1 at hgW hbW hzW hg0W ⊢
  have h0 : Hid (ItW w W1 S l w.heap.size w1.heap.size 0) := by
   refine ⟨hbW, ⟨p, 33, ?_, h.below hS hbW⟩, by unfold ObsAt; trivial, fun j hj => ?_, by omega⟩
   · rw [List.drop_zero, EQ.out]; exact hg0W
   · rw [HL.out] at hj
     refine ⟨?_, ?_⟩
     · rw [Nat.zero_add, cell_of_row _ _ _ _ _ _ hgW, Array.getElem?_eq_getElem (by omega)]; rfl
     · simp [World.frozen?, hgW]
  have hgg : w.heap.size < w1.heap.size := by omega
  generalize w1.heap.size = g1 at hgg h0 ⊢
  clear hgW hbW hzW hg0W hg1 hb2 hcs hmk hp1 hz1 hz
  go_loopw [17] (fun v wr => ∃ i : Nat, i ≤ L ∧ v = .int .i64 (i : Int) ∧ Hid (ItW w wr S l w.heap.size g1 i)) (fun v _ => L - (intOf v).toNat)
  case atStart => exact ⟨0, Nat.zero_le _, rfl, h0⟩
  case round =>
   clear h0
   obtain ⟨i, hiL, rfl, hE⟩ := hrel
   obtain ⟨wo, rfl⟩ : ∃ wo : World, wo = wr := ⟨_, rfl⟩
   by_cases hlt : i < L
   · obtain ⟨hb, ⟨q, t, hh, hq⟩, ho, ht, hg⟩ := hE.out
     have hil : i < l.length := by rw [HL.out]; exact hlt
     have hld := qh9 (list_drop hil)
     rw [hld.out] at hh hq
     obtain ⟨b, o, c, pa, pd, rfl, hc, hAa, hAd⟩ := hq.parts
     have put := it_put (a := l[i]) hS (Nat.le_refl _) (by omega) (by omega) hil hE.out hAa.2.2
     obtain ⟨x0', x1', x2', x3', x4', x5', ea, l0, l1, l2, l3, l4, l5, l6⟩ := hAa.cells
     have hbw : b ≠ g1 := by have := hS b hAa.1.1; omega
     have hbw0 : b ≠ w.heap.size := by have := hS b hAa.1.1; omega
     have hAd2 := hAd.keep (w' := wo.setCells g1 (i * 7) (cellsO l[i] pa)) (fun _ h => h) (fun b hs => setCells_other g1 b (by have := hS b hs; omega) _ _ _)
     obtain ⟨y0, y1, y2, y3, y4, y5, ed, d0, d1, d2, d3, d4, d5, d6⟩ := hAd2.cells
     have hh2 : (wo.setCells g1 (i * 7) (cellsO l[i] pa)).heap[w.heap.size]? = _ := (setCells_other g1 w.heap.size (by omega) _ _ _).trans hh
     have hs2 := setCells_size g1 (cellsO l[i] pa) (i * 7) wo
     have m6 : wo.cell? ⟨w.heap.size, 6, none⟩ = some (.slice (some ⟨b, o, none⟩) 2 c) := by rw [cell_of_row _ _ _ _ _ _ hh]; rfl
     have n6 : (wo.setCells g1 (i * 7) (cellsO l[i] pa)).cell? ⟨w.heap.size, 6, none⟩ = some (.slice (some ⟨b, o, none⟩) 2 c) := by rw [cell_of_row _ _ _ _ _ _ hh2]; rfl
     have hth : wo.there g1 (i * 7) 7 := fun j hj => by
      have := ht (i * 7 + j) (by omega)
      rwa [Nat.zero_add] at this
     have hone := hAa.2.2.one
     rw [ea] at hone
     have HIT : ∀ W, W.heap[w.heap.size]? = some (.cells (cellsO (Ob.list (l.drop (i + 1))) pd).toArray t (0, 0)) → W.heap.size = wo.heap.size → (∀ b, b ≠ w.heap.size → W.heap[b]? = (wo.setCells g1 (i * 7) (cellsO l[i] pa)).heap[b]?) → Below w.heap.size w W → Hid (ItW w W S l w.heap.size g1 (i + 1)) := by
      intro W hW1 hW2 hW3 hW4
      have hk : ∀ b, S b → W.heap[b]? = (wo.setCells g1 (i * 7) (cellsO l[i] pa)).heap[b]? := fun b hs => hW3 b (by have := hS b hs; omega)
      refine ⟨hW4, ⟨pd, t, hW1, hAd2.2.2.keep (fun _ h => h) hk⟩, obsAt_keep hk (fun j u _ _ hc => (World.cell?_of_block (a := ⟨g1, j, none⟩) (hW3 g1 (by omega))).trans hc) put.2.1, there_keep put.2.2 (hW3 g1 (by omega)), by omega⟩
     have hb2 := put.1
     rw [ea] at hs2 hh2 n6 d0 d1 d2 d3 d4 d5 d6 HIT hb2
     have HIT' := qh9 HIT
     have hpd := hAd2.2.2.one
     rw [ed] at hpd
     have hi0 : (i : Int) < L := by omega
     have hwo := qh9 hbw
     clear put HIT hE hAa hAd hAd2 hq ho ht ea hh
     obtain ⟨old, hold, hh3⟩ : ∃ old : Array Value, old.size = 7 ∧ (wo.setCells g1 (i * 7) [x0', x1', x2', x3', x4', x5', pa]).heap[w.heap.size]? = some (.cells old t (0, 0)) := ⟨_, by simp [cellsO_length], hh2⟩
     clear hh2
     have HOLD := qh9 hold
     clear hold
     have hh2 := hh3
     clear hh3
     have HH2 := qh9 hh2
     have HS2 := qh9 hs2
     have HONE := qh9 hone
     have HPD := qh9 hpd
     have HED := qh9 ed
     have HB2 := qh9 hb2
     have HTH : Hid (wo.there g1 (i * 7) (#[x0', x1', x2', x3', x4', x5', pa] : Array Value).size) := hth
     have hsz : (Tryz.prog.info? 33).map (·.size) = some (#[x0', x1', x2', x3', x4', x5', pa] : Array Value).size := by kernel_rfl
     replace hsz := qh9 hsz
     clear hh2 hs2 hone hpd ed hb2 hth
     go_wp2_with (first | (refine wpList_store_mid rfl 33 (.tmp 26) (.tmp 25) rfl g1 (i * 7) #[x0', x1', x2', x3', x4', x5', pa] rfl rfl ?c1 hsz.out HONE.out ?_) | (refine storeO rfl (.tmp 1) (.tmp 30) rfl w.heap.size #[y0, y1, y2, y3, y4, y5, pd] rfl rfl t old ?c2 HOLD.out rfl HPD.out ?_))
     case c1 => exact HTH.out
     case c2 => exact HH2.out
     go_roundw
     case rel =>
      refine ⟨i + 1, by omega, by go_num, HIT'.out _ ?_ ?_ ?_ ?_⟩
      · rw [HED.out]; exact setRow_heap _ _ _ _ _ _ HH2.out
      · rw [size_setRow]; exact HS2.out
      · intro b hb; exact setRow_other _ _ _ _ hb
      · exact below_setRowO HB2.out (Nat.le_refl _) _
     case measure => simp [intOf]; omega
   · have hiL2 : i = L := by omega
     obtain ⟨hb, _, ho, _, hg⟩ := hE.out
     have HR : Hid (RetIt w S (some l) (.returned (.tuple #[.slice (some ⟨g1, 0, none⟩) L L, .bool true])) wo) := by
      refine ⟨hb, ?_⟩
      rw [hiL2, ← HL.out, List.take_length] at ho
      exact ⟨g1, by rw [HL.out], ho, by omega, hg⟩
     have hn : ¬ (i : Int) < L := by omega
     clear hE hb ho hg hiL2 hlt
     go_wp2
     go_ret2
     exact HR.out
def QuietV (w : World) (v : Value) (e : Ending) (w' : World) : Prop := e = .returned v ∧ ∃ n, w' = w.drewN n
theorem QuietV.below {w w' : World} {v : Value} {e : Ending} (h : QuietV w v e w') : e = .returned v ∧ Below w.heap.size w w' := by
 obtain ⟨h1, n, rfl⟩ := h
 exact ⟨h1, rfl, rfl, rfl, Nat.le_refl _, fun _ _ => rfl⟩
theorem quiet_same {P : Program} {f : FuncId} {args : Array Value} {w : World} {n : Nat} {v : Value}
 (h : Calls P f args (w.drewN n) fun e w' => e = .returned v ∧ w.drewN n = w') : Calls P f args (w.drewN n) fun e w'' => e = .returned v ∧ ∃ m, w'' = w.drewN m :=
 h.mono fun _ _ ⟨he, hm⟩ => ⟨he, n, hm.symm⟩

theorem sameRaw (b k b' k' : Nat) (w : World) (x y : Int) (s1 s2 s3 s4 s5 t1 t2 t3 t4 t5 : ByteArray)
 (l0 : w.cell? ⟨b, k, none⟩ = some (.int .i64 x)) (l1 : w.cell? ⟨b, k + 1, none⟩ = some (.string s1)) (l2 : w.cell? ⟨b, k + 2, none⟩ = some (.string s2)) (l3 : w.cell? ⟨b, k + 3, none⟩ = some (.string s3)) (l4 : w.cell? ⟨b, k + 4, none⟩ = some (.string s4)) (l5 : w.cell? ⟨b, k + 5, none⟩ = some (.string s5))
 (m0 : w.cell? ⟨b', k', none⟩ = some (.int .i64 y)) (m1 : w.cell? ⟨b', k' + 1, none⟩ = some (.string t1)) (m2 : w.cell? ⟨b', k' + 2, none⟩ = some (.string t2)) (m3 : w.cell? ⟨b', k' + 3, none⟩ = some (.string t3)) (m4 : w.cell? ⟨b', k' + 4, none⟩ = some (.string t4)) (m5 : w.cell? ⟨b', k' + 5, none⟩ = some (.string t5)) :
 Calls Tryz.prog 165 #[.pointer (some ⟨b, k, none⟩), .pointer (some ⟨b', k', none⟩)] w (QuietV w (.bool (x == y && eqS s1 s2 s3 s4 s5 t1 t2 t3 t4 t5))) := by
 cases h0 : (x == y) with
 | false =>
  have hr : (false && eqS s1 s2 s3 s4 s5 t1 t2 t3 t4 t5) = false := rfl
  have hn : (x != y) = true := by rw [bne, h0]; rfl
  rw [hr]
  clear hr
  go_enter Tryz.func165, Tryz.ntmps165
  go_wp2_with fail
  go_quiet (fail)
  go_wp2
  go_ret
  exact ⟨rfl, _, rfl⟩
 | true =>
  cases h1 : (s1.toList == t1.toList) with
  | false =>
   have hr : (true && eqS s1 s2 s3 s4 s5 t1 t2 t3 t4 t5) = false := by unfold eqS; rw [h1]; simp
   rw [hr]
   clear hr
   go_enter Tryz.func165, Tryz.ntmps165
   go_wp2_with fail
   go_quiet (fail)
   go_wp2
   go_ret
   exact ⟨rfl, _, rfl⟩
  | true =>
   cases h2 : (s2.toList == t2.toList) with
   | false =>
    have hr : (true && eqS s1 s2 s3 s4 s5 t1 t2 t3 t4 t5) = false := by unfold eqS; rw [h1, h2]; simp
    rw [hr]
    clear hr
    go_enter Tryz.func165, Tryz.ntmps165
    go_wp2_with fail
    go_quiet (fail)
    go_wp2
    go_ret
    exact ⟨rfl, _, rfl⟩
   | true =>
    cases h3 : (s3.toList == t3.toList) with
    | false =>
     have hr : (true && eqS s1 s2 s3 s4 s5 t1 t2 t3 t4 t5) = false := by unfold eqS; rw [h1, h2, h3]; simp
     rw [hr]
     clear hr
     go_enter Tryz.func165, Tryz.ntmps165
     go_wp2_with fail
     go_quiet (fail)
     go_wp2
     go_ret
     exact ⟨rfl, _, rfl⟩
    | true =>
     cases h4 : (s4.toList == t4.toList) with
     | false =>
      have hr : (true && eqS s1 s2 s3 s4 s5 t1 t2 t3 t4 t5) = false := by unfold eqS; rw [h1, h2, h3, h4]; simp
      rw [hr]
      clear hr
      go_enter Tryz.func165, Tryz.ntmps165
      go_wp2_with fail
      go_quiet (fail)
      go_wp2
      go_ret
      exact ⟨rfl, _, rfl⟩
     | true =>
      cases h5 : (s5.toList == t5.toList) with
      | false =>
       have hr : (true && eqS s1 s2 s3 s4 s5 t1 t2 t3 t4 t5) = false := by unfold eqS; rw [h1, h2, h3, h4, h5]; simp
       rw [hr]
       clear hr
       go_enter Tryz.func165, Tryz.ntmps165
       go_wp2_with fail
       go_quiet (fail)
       go_wp2
       go_ret
       exact ⟨rfl, _, rfl⟩
      | true =>
       have hr : (true && eqS s1 s2 s3 s4 s5 t1 t2 t3 t4 t5) = true := by unfold eqS; rw [h1, h2, h3, h4, h5]; rfl
       rw [hr]
       clear hr
       go_enter Tryz.func165, Tryz.ntmps165
       go_wp2_with fail
       go_quiet (fail)
       go_wp2
       go_ret
       exact ⟨rfl, _, rfl⟩
theorem cmpInt (x y : Int) (w : World) (h : x ≠ y) :
 Calls Tryz.prog 144 #[.int .i64 x, .int .i64 y] w fun e w' => e = .returned (.int .i64 (ordI x y)) ∧ w = w' := by
 rcases Int.lt_trichotomy x y with g | g | g
 · have ho := qh9 (ordI_lt g)
   go_enter Tryz.func144, Tryz.ntmps144
   go_wp2
   go_ret
   exact ⟨ret_int ho.out.symm, rfl⟩
 · exact absurd g h
 · have ho := qh9 (ordI_gt g)
   have g2 : ¬ x < y := by omega
   have e1 : (x == x) = true := by simp
   go_enter Tryz.func144, Tryz.ntmps144
   go_wp2
   go_ret
   exact ⟨ret_int ho.out.symm, rfl⟩

theorem cmpTexts (l l' : List UInt8) (s t : ByteArray) (w : World) (hs : Hid (LA s = body l)) (ht : Hid (LA t = body l')) (h1 : s.size ≤ 1000000000) (h2 : t.size ≤ 1000000000) :
 Calls Tryz.prog 198 #[.string s, .string t] w fun e w' => e = .returned (.int .i64 (ordN (mag l) (mag l'))) ∧ w = w' := by
 by_cases hl : s.size = t.size
 · have hl2 : (((s.size : Int)) == (t.size : Int)) = true := by rw [hl]; simp
   have hl3 : (((s.size : Int)) != (t.size : Int)) = false := by rw [hl]; simp
   have ho : Hid (Lib.compareBytes s.data.toList t.data.toList = ordN (mag l) (mag l')) := by
    show Lib.compareBytes (LA s) (LA t) = _
    rw [hs.out, ht.out]
    exact compare_bodies (by rw [← hs.out, ← ht.out, LA_length, LA_length, hl])
   clear hl
   go_enter Tryz.func198, Tryz.ntmps198
   go_wp2_with fail
   refine (Tryz.strings_Compare s t _).mono ?_
   rintro e w' ⟨rfl, rfl⟩
   rw [ho.out]
   go_wp2
   go_ret
   exact ⟨rfl, rfl⟩
 · have hl2 : (((s.size : Int)) == (t.size : Int)) = false := by rw [beq_eq_false_iff_ne]; omega
   have hl3 : (((s.size : Int)) != (t.size : Int)) = true := by rw [bne_iff_ne]; omega
   have ho : Hid (ordI s.size t.size = ordN (mag l) (mag l')) := by
    show _ = _
    rcases Nat.lt_or_ge s.size t.size with g | g
    · rw [ordI_lt (by omega), ordN_lt (mag_lt_of_len (by rw [← hs.out, ← ht.out, LA_length, LA_length]; exact g))]
    · rw [ordI_gt (by omega), ordN_gt (mag_lt_of_len (by rw [← hs.out, ← ht.out, LA_length, LA_length]; omega))]
   have hne : (s.size : Int) ≠ (t.size : Int) := by omega
   replace hne := qh9 hne
   clear hl
   go_enter Tryz.func198, Tryz.ntmps198
   go_wp2_with fail
   refine (cmpInt _ _ _ hne.out).mono ?_
   rintro e w' ⟨rfl, rfl⟩
   rw [ho.out]
   go_wp2
   go_ret
   exact ⟨rfl, rfl⟩

theorem compare_any (s t : ByteArray) (w : World) (hs : s.size ≤ 400000000) (ht : t.size ≤ 400000000) :
 Calls Tryz.prog 184 #[.string s, .string t] w fun e w' => e = .returned (.int .i64 (ordI (val (LA s)) (val (LA t)))) ∧ w = w' := by
 obtain ⟨x, hx⟩ : ∃ x, BA (body (LA s)) = x := ⟨_, rfl⟩
 obtain ⟨y, hy⟩ : ∃ y, BA (body (LA t)) = y := ⟨_, rfl⟩
 have bx : Hid (LA x = body (LA s)) := by show _ = _; rw [← hx]; rfl
 have bY : Hid (LA y = body (LA t)) := by show _ = _; rw [← hy]; rfl
 have sx : x.size ≤ 1000000000 := by have := body_length (LA s); rw [← LA_length, bx.out]; rw [LA_length] at this; omega
 have sy : y.size ≤ 1000000000 := by have := body_length (LA t); rw [← LA_length, bY.out]; rw [LA_length] at this; omega
 rw [val_eq, val_eq]
 have nx := @neg_mag (LA s)
 have ny := @neg_mag (LA t)
 have Hx := qh9 hx
 have Hy := qh9 hy
 clear hx hy
 cases hb : neg (LA s) <;> cases hb' : neg (LA t) <;> rw [hb] at nx <;> rw [hb'] at ny <;> have Hb := qh9 hb <;> have Hb' := qh9 hb' <;> clear hb hb' <;> (go_enter Tryz.func184, Tryz.ntmps184)
 · rw [ord_ff]
   clear nx ny
   go_wp2_with fail
   refine (split_any s _ (by unfold maxLen; omega)).mono ?_
   rintro e w' ⟨rfl, rfl⟩
   rw [Hx.out, Hb.out]
   go_wp2_with fail
   refine (split_any t _ (by unfold maxLen; omega)).mono ?_
   rintro e w' ⟨rfl, rfl⟩
   rw [Hy.out, Hb'.out]
   go_wp2_with fail
   refine (cmpTexts (LA s) (LA t) x y _ bx bY sx sy).mono ?_
   rintro e w' ⟨rfl, rfl⟩
   go_wp2
   go_ret
   exact ⟨rfl, rfl⟩
 · rw [ord_ft (ny rfl)]
   clear nx ny
   go_wp2_with fail
   refine (split_any s _ (by unfold maxLen; omega)).mono ?_
   rintro e w' ⟨rfl, rfl⟩
   rw [Hx.out, Hb.out]
   go_wp2_with fail
   refine (split_any t _ (by unfold maxLen; omega)).mono ?_
   rintro e w' ⟨rfl, rfl⟩
   rw [Hy.out, Hb'.out]
   go_wp2
   go_ret
   exact ⟨rfl, rfl⟩
 · rw [ord_tf (nx rfl)]
   clear nx ny
   go_wp2_with fail
   refine (split_any s _ (by unfold maxLen; omega)).mono ?_
   rintro e w' ⟨rfl, rfl⟩
   rw [Hx.out, Hb.out]
   go_wp2_with fail
   refine (split_any t _ (by unfold maxLen; omega)).mono ?_
   rintro e w' ⟨rfl, rfl⟩
   rw [Hy.out, Hb'.out]
   go_wp2
   go_ret
   exact ⟨rfl, rfl⟩
 · rw [ord_tt]
   clear nx ny
   go_wp2_with fail
   refine (split_any s _ (by unfold maxLen; omega)).mono ?_
   rintro e w' ⟨rfl, rfl⟩
   rw [Hx.out, Hb.out]
   go_wp2_with fail
   refine (split_any t _ (by unfold maxLen; omega)).mono ?_
   rintro e w' ⟨rfl, rfl⟩
   rw [Hy.out, Hb'.out]
   go_wp2_with fail
   refine (cmpTexts (LA t) (LA s) y x _ bY bx sy sx).mono ?_
   rintro e w' ⟨rfl, rfl⟩
   go_wp2
   go_ret
   exact ⟨rfl, rfl⟩

theorem digits_any (s : ByteArray) (w : World) (hs : s.size ≤ 400000000) :
 Calls Tryz.prog 196 #[.string s] w fun e w' => e = .returned (.int .i64 ((body (LA s)).length : Nat)) ∧ w = w' := by
 obtain ⟨x, hx⟩ : ∃ x, BA (body (LA s)) = x := ⟨_, rfl⟩
 have hl : Hid ((body (LA s)).length = x.size) := by show _ = _; rw [← hx]; rfl
 rw [hl.out]
 have Hx := qh9 hx
 clear hx
 go_enter Tryz.func196, Tryz.ntmps196
 go_wp2_with fail
 refine (split_any s _ (by unfold maxLen; omega)).mono ?_
 rintro e w' ⟨rfl, rfl⟩
 rw [Hx.out]
 go_wp2
 go_ret
 exact ⟨rfl, rfl⟩
def fO : Ob → Int × ByteArray × ByteArray × ByteArray × ByteArray × ByteArray
 | .num q => (1, nt q, dt q, ⟨#[]⟩, ⟨#[]⟩, ⟨#[]⟩)
 | .str s => (3, ⟨#[]⟩, ⟨#[]⟩, ⟨#[]⟩, ⟨#[]⟩, BA s)
 | .sym a n => (2, ⟨#[]⟩, ⟨#[]⟩, BA a, BA n, ⟨#[]⟩)
 | .cons _ _ => (4, ⟨#[]⟩, ⟨#[]⟩, ⟨#[]⟩, ⟨#[]⟩, ⟨#[]⟩)
theorem cellsO_f (o : Ob) (p : Value) : cellsO o p = [.int .i64 (fO o).1, .string (fO o).2.1, .string (fO o).2.2.1, .string (fO o).2.2.2.1, .string (fO o).2.2.2.2.1, .string (fO o).2.2.2.2.2, p] := by
 cases o <;> rfl
def Ob.same (a b : Ob) : Bool := (a.isCons && b.isCons) || decide (a = b)
theorem same_f (a b : Ob) : ((fO a).1 == (fO b).1 && eqS (fO a).2.1 (fO a).2.2.1 (fO a).2.2.2.1 (fO a).2.2.2.2.1 (fO a).2.2.2.2.2 (fO b).2.1 (fO b).2.2.1 (fO b).2.2.2.1 (fO b).2.2.2.2.1 (fO b).2.2.2.2.2) = a.same b := by
 cases a with
 | num q =>
  cases b with
  | num q' => show (true && eqS (nt q) (dt q) ⟨#[]⟩ ⟨#[]⟩ ⟨#[]⟩ (nt q') (dt q') ⟨#[]⟩ ⟨#[]⟩ ⟨#[]⟩) = decide (Ob.num q = Ob.num q'); unfold eqS; rw [q_beq]; simp
  | str s => simp [fO, Ob.same, Ob.isCons]
  | sym x y => simp [fO, Ob.same, Ob.isCons]
  | cons x y => simp [fO, Ob.same, Ob.isCons]
 | str s =>
  cases b with
  | str s' => show (true && eqS ⟨#[]⟩ ⟨#[]⟩ ⟨#[]⟩ ⟨#[]⟩ (BA s) ⟨#[]⟩ ⟨#[]⟩ ⟨#[]⟩ ⟨#[]⟩ (BA s')) = decide (Ob.str s = Ob.str s'); unfold eqS; rw [beq_BA]; simp
  | num q => simp [fO, Ob.same, Ob.isCons]
  | sym x y => simp [fO, Ob.same, Ob.isCons]
  | cons x y => simp [fO, Ob.same, Ob.isCons]
 | sym x y =>
  cases b with
  | sym x' y' => show (true && eqS ⟨#[]⟩ ⟨#[]⟩ (BA x) (BA y) ⟨#[]⟩ ⟨#[]⟩ ⟨#[]⟩ (BA x') (BA y') ⟨#[]⟩) = decide (Ob.sym x y = Ob.sym x' y'); unfold eqS; rw [beq_BA, beq_BA]; simp
  | num q => simp [fO, Ob.same, Ob.isCons]
  | str s => simp [fO, Ob.same, Ob.isCons]
  | cons x y => simp [fO, Ob.same, Ob.isCons]
 | cons x y =>
  cases b with
  | cons x' y' => show (true && eqS ⟨#[]⟩ ⟨#[]⟩ ⟨#[]⟩ ⟨#[]⟩ ⟨#[]⟩ ⟨#[]⟩ ⟨#[]⟩ ⟨#[]⟩ ⟨#[]⟩ ⟨#[]⟩) = true; unfold eqS; simp
  | num q => simp [fO, Ob.same, Ob.isCons]
  | str s => simp [fO, Ob.same, Ob.isCons]
  | sym x y => simp [fO, Ob.same, Ob.isCons]
theorem sameP (a a' : Ob) (b k b' k' : Nat) (p p' : Value) (w : World) (S : Nat → Prop) (h : At w S a b k p) (h' : At w S a' b' k' p') :
 Calls Tryz.prog 165 #[.pointer (some ⟨b, k, none⟩), .pointer (some ⟨b', k', none⟩)] w (QuietV w (.bool (a.same a'))) := by
 obtain ⟨x0, x1, x2, x3, x4, x5, e, l0, l1, l2, l3, l4, l5, l6⟩ := h.cells
 obtain ⟨y0, y1, y2, y3, y4, y5, e', m0, m1, m2, m3, m4, m5, m6⟩ := h'.cells
 rw [cellsO_f] at e e'
 simp only [List.cons.injEq, and_true] at e e'
 obtain ⟨rfl, rfl, rfl, rfl, rfl, rfl⟩ := e
 obtain ⟨rfl, rfl, rfl, rfl, rfl, rfl⟩ := e'
 rw [← same_f]
 exact sameRaw b k b' k' w _ _ _ _ _ _ _ _ _ _ _ _ l0 l1 l2 l3 l4 l5 m0 m1 m2 m3 m4 m5

def rankI (k : Int) : Int := if k = 1 then 1 else if k = 3 then 2 else if k = 2 then 3 else if k = 4 then 4 else 0
theorem rankP (k : Int) (w : World) : Calls Tryz.prog 177 #[.int .i64 k] w fun e w' => e = .returned (.int .i64 (rankI k)) ∧ w = w' := by
 by_cases h : k = 1 ∨ k = 2 ∨ k = 3 ∨ k = 4
 · rcases h with rfl | rfl | rfl | rfl
   all_goals
    go_enter Tryz.func177, Tryz.ntmps177
    go_wp2
    go_ret
    exact ⟨rfl, rfl⟩
 · have h1 : (k == 1) = false := by rw [beq_eq_false_iff_ne]; intro e; exact h (.inl e)
   have h2 : (k == 2) = false := by rw [beq_eq_false_iff_ne]; intro e; exact h (.inr (.inl e))
   have h3 : (k == 3) = false := by rw [beq_eq_false_iff_ne]; intro e; exact h (.inr (.inr (.inl e)))
   have h4 : (k == 4) = false := by rw [beq_eq_false_iff_ne]; intro e; exact h (.inr (.inr (.inr e)))
   have hr := qh9 (show (0 : Int) = rankI k by unfold rankI; rw [if_neg (by omega), if_neg (by omega), if_neg (by omega), if_neg (by omega)])
   clear h
   go_enter Tryz.func177, Tryz.ntmps177
   go_wp2
   go_ret
   exact ⟨ret_int hr.out, rfl⟩
theorem cmpAny (x y : Int) (w : World) : Calls Tryz.prog 144 #[.int .i64 x, .int .i64 y] w fun e w' => e = .returned (.int .i64 (ordI x y)) ∧ w = w' := by
 by_cases h : x = y
 · subst h
   have ho := qh9 (show ordI x x = 0 by unfold ordI; rw [if_neg (by omega), if_neg (by omega)])
   have hn : ¬ x < x := by omega
   go_enter Tryz.func144, Tryz.ntmps144
   go_wp2
   go_ret
   exact ⟨ret_int ho.out.symm, rfl⟩
 · exact cmpInt x y w h
theorem orP (c d : Int) (g : Nat) (w : World) (h0 : w.cell? ⟨g, 0, none⟩ = some (.int .i64 c)) (h1 : w.cell? ⟨g, 1, none⟩ = some (.int .i64 d)) :
 Calls Tryz.prog 180 #[.slice (some ⟨g, 0, none⟩) 2 2] w fun e w' => e = .returned (.int .i64 (next c d)) ∧ w = w' := by
 obtain ⟨r, hr⟩ : ∃ r, next c d = r := ⟨_, rfl⟩
 have HR := qh9 hr
 rw [hr]
 clear hr
 go_enter Tryz.func180, Tryz.ntmps180
 go_wp2_with fail
 go_loop [8] (fun v => ∃ i : Nat, i ≤ 2 ∧ v = .int .i64 i ∧ Hid ((0 < i → c = 0) ∧ (1 < i → d = 0))) (fun v => 2 - (intOf v).toNat)
 case atStart => exact ⟨0, by omega, rfl, ⟨fun h => by omega, fun h => by omega⟩⟩
 case round =>
  obtain ⟨i, hi, rfl, hE⟩ := hrel
  have hi3 : i = 0 ∨ i = 1 ∨ i = 2 := by omega
  rcases hi3 with rfl | rfl | rfl
  · by_cases hc : c = 0
    · have hn : (c != 0) = false := by subst hc; rfl
      have HC := qh9 hc
      clear hc
      go_wp2
      go_round
      case rel => exact ⟨1, by omega, rfl, ⟨fun _ => HC.out, fun h => by omega⟩⟩
      case measure => simp [intOf]
    · have hn : (c != 0) = true := by rw [bne_iff_ne]; exact hc
      have hr := qh9 (show c = r by rw [← HR.out]; unfold next; rw [if_neg hc])
      clear hc
      go_wp2
      go_ret
      exact ⟨ret_int hr.out, rfl⟩
  · have hc := hE.out.1 (by omega)
    by_cases hd : d = 0
    · have hn : (d != 0) = false := by subst hd; rfl
      have HC := qh9 hc
      have HD := qh9 hd
      clear hc hd
      go_wp2
      go_round
      case rel => exact ⟨2, by omega, rfl, ⟨fun _ => HC.out, fun h => HD.out⟩⟩
      case measure => simp [intOf]
    · have hn : (d != 0) = true := by rw [bne_iff_ne]; exact hd
      have hr := qh9 (show d = r by rw [← HR.out]; unfold next; rw [if_pos hc])
      clear hc hd
      go_wp2
      go_ret
      exact ⟨ret_int hr.out, rfl⟩
  · have hr := qh9 (show (0 : Int) = r by rw [← HR.out]; unfold next; rw [if_pos (hE.out.1 (by omega)), hE.out.2 (by omega)])
    go_wp2
    go_ret
    exact ⟨ret_int hr.out, rfl⟩
theorem ordI_mul (x y : Int) (d : Nat) (hd : 0 < d) : ordI (x * (d : Int)) (y * (d : Int)) = ordI x y := by
 have hd' : (0 : Int) < d := by omega
 unfold ordI
 simp only [Int.mul_lt_mul_right hd']
theorem dt_beq {x y : Rat} : ((dt x).toList == (dt y).toList) = decide (x.den = y.den) := by
 unfold dt
 rw [beq_BA]
 by_cases h : x.den = y.den
 · rw [h]; simp
 · rw [decide_eq_false h, decide_eq_false]
   intro e
   have := congrArg val e
   rw [val_text, val_text] at this
   exact h (by exact_mod_cast this)
theorem chain2 {B : Nat} {w w1 w2 : World} (h : Below B w w1) (hb : Below w1.heap.size w1 w2) (hB : B ≤ w.heap.size) : Below B w w2 := h.trans (hb.mono (Nat.le_trans hB h.size))

theorem cmpNumP (k : Nat) (hk : k ≤ 1000) (x y : Rat) (w : World) (hx : Bd k x) (hy : Bd k y) :
 Calls Tryz.prog 178 #[vO (.num x) (.slice none 0 0), vO (.num y) (.slice none 0 0)] w (RetI w (ordQ x y)) := by
 have b1 := bd_nt hx
 have b2 := bd_dt hx
 have b3 := bd_nt hy
 have b4 := bd_dt hy
 have v1 := qh9 (val_nt x)
 have v2 := qh9 (val_dt x)
 have v3 := qh9 (val_nt y)
 have v4 := qh9 (val_dt y)
 cases hd : ((dt x).toList == (dt y).toList) with
 | true =>
  have hR : Hid (ordI (val (LA (nt x))) (val (LA (nt y))) = ordQ x y) := by
   show _ = _
   rw [dt_beq] at hd
   have hd := of_decide_eq_true hd
   rw [v1.out, v3.out, ← ordQ_eq, hd, ordI_mul _ _ _ y.den_pos]
  change Calls Tryz.prog 178 #[.agg #[.int .i64 1, .string (nt x), .string (dt x), e0, e0, e0, .slice none 0 0], .agg #[.int .i64 1, .string (nt y), .string (dt y), e0, e0, e0, .slice none 0 0]] w _
  generalize nt x = nx at b1 hR v1 ⊢
  generalize dt x = dx at b2 hd v2 ⊢
  generalize nt y = ny at b3 hR v3 ⊢
  generalize dt y = dy at b4 hd v4 ⊢
  go_enter Tryz.func178, Tryz.ntmps178
  go_wp2_with fail
  refine (compare_any nx ny _ (by omega) (by omega)).mono ?_
  rintro e w' ⟨rfl, rfl⟩
  go_wp2
  go_ret
  exact ⟨ret_int hR.out, Below.alloc (Below.alloc (Below.refl _ _) (Nat.le_refl _) _) (by simp) _⟩
 | false =>
  have hR : Hid (ordI (val (LA (BA (text (val (LA (nt x)) * val (LA (dt y))))))) (val (LA (BA (text (val (LA (nt y)) * val (LA (dt x))))))) = ordQ x y) := by
   show _ = _
   rw [LA_BA, LA_BA, val_text, val_text, v1.out, v2.out, v3.out, v4.out, ordQ_eq]
  have s1 : (BA (text (val (LA (nt x)) * val (LA (dt y))))).size ≤ 3000 := by
   rw [v1.out, v4.out, BA_size]
   refine Nat.le_trans (text_length (k := k + k) ?_) (by omega)
   rw [Int.natAbs_mul]
   exact lt_pow_mul hx.1 hy.2
  have s2 : (BA (text (val (LA (nt y)) * val (LA (dt x))))).size ≤ 3000 := by
   rw [v3.out, v2.out, BA_size]
   refine Nat.le_trans (text_length (k := k + k) ?_) (by omega)
   rw [Int.natAbs_mul]
   exact lt_pow_mul hy.1 hx.2
  change Calls Tryz.prog 178 #[.agg #[.int .i64 1, .string (nt x), .string (dt x), e0, e0, e0, .slice none 0 0], .agg #[.int .i64 1, .string (nt y), .string (dt y), e0, e0, e0, .slice none 0 0]] w _
  generalize nt x = nx at b1 hR v1 s1 s2 ⊢
  generalize dt x = dx at b2 hd v2 hR s1 s2 ⊢
  generalize nt y = ny at b3 hR v3 s1 s2 ⊢
  generalize dt y = dy at b4 hd v4 hR s1 s2 ⊢
  clear v1 v2 v3 v4 hx hy
  go_enter Tryz.func178, Tryz.ntmps178
  go_wp2_with fail
  have c1 : ((w.alloc (.cells #[.int .i64 1, .string nx, .string dx, e0, e0, e0, .slice none 0 0] 33)).alloc (.cells #[.int .i64 1, .string ny, .string dy, e0, e0, e0, .slice none 0 0] 33)).heap[w.heap.size]? = _ := heap_alloc2_old w _ _
  have c2 : ((w.alloc (.cells #[.int .i64 1, .string nx, .string dx, e0, e0, e0, .slice none 0 0] 33)).alloc (.cells #[.int .i64 1, .string ny, .string dy, e0, e0, e0, .slice none 0 0] 33)).heap[w.heap.size + 1]? = _ := heap_alloc2_new w _ _
  have hW := Below.alloc (Below.alloc (Below.refl w.heap.size w) (Nat.le_refl _) (.cells #[.int .i64 1, .string nx, .string dx, e0, e0, e0, .slice none 0 0] 33)) (by simp) (.cells #[.int .i64 1, .string ny, .string dy, e0, e0, e0, .slice none 0 0] 33)
  have hz : ((w.alloc (.cells #[.int .i64 1, .string nx, .string dx, e0, e0, e0, .slice none 0 0] 33)).alloc (.cells #[.int .i64 1, .string ny, .string dy, e0, e0, e0, .slice none 0 0] 33)).heap.size = w.heap.size + 2 := by simp
  unfold e0 at c1 c2 hW hz ⊢
  generalize (w.alloc (.cells #[.int .i64 1, .string nx, .string dx, .string ⟨#[]⟩, .string ⟨#[]⟩, .string ⟨#[]⟩, .slice none 0 0] 33)).alloc (.cells #[.int .i64 1, .string ny, .string dy, .string ⟨#[]⟩, .string ⟨#[]⟩, .string ⟨#[]⟩, .slice none 0 0] 33) = W at c1 c2 hW hz ⊢
  have HC : Hid (∀ W', Below W.heap.size W W' → W'.cell? ⟨w.heap.size, 1, none⟩ = some (.string nx) ∧ W'.cell? ⟨w.heap.size, 2, none⟩ = some (.string dx) ∧ W'.cell? ⟨w.heap.size + 1, 1, none⟩ = some (.string ny) ∧ W'.cell? ⟨w.heap.size + 1, 2, none⟩ = some (.string dy)) := by
   intro W' hb
   have d1 := (hb.block w.heap.size (by omega)).trans c1
   have d2 := (hb.block (w.heap.size + 1) (by omega)).trans c2
   refine ⟨?_, ?_, ?_, ?_⟩
   · rw [cell_of_row _ _ _ _ _ _ d1]; rfl
   · rw [cell_of_row _ _ _ _ _ _ d1]; rfl
   · rw [cell_of_row _ _ _ _ _ _ d2]; rfl
   · rw [cell_of_row _ _ _ _ _ _ d2]; rfl
  obtain ⟨q1, q2, q3, q4⟩ := HC.out W (Below.refl _ _)
  have hB0 : Below W.heap.size W W.drew := (Below.refl _ _).drew
  clear c1 c2
  go_wp2_with fail
  go_region_held3 (fun W' => W'.cell? ⟨w.heap.size, 1, none⟩ = some (.string nx) ∧ W'.cell? ⟨w.heap.size, 2, none⟩ = some (.string dx) ∧ W'.cell? ⟨w.heap.size + 1, 1, none⟩ = some (.string ny) ∧ W'.cell? ⟨w.heap.size + 1, 2, none⟩ = some (.string dy)) (go_keep)
   (first | (go_at_call 193; refine (multiply_any _ _ _ (by omega) (by omega)).mono ?_; rintro e w3 ⟨rfl, hb3⟩; have hB3 := chain2 ‹Below W.heap.size W _› hb3 (Nat.le_refl _); obtain ⟨j1, j2, j3, j4⟩ := HC.out _ hB3) | (go_at_call 184; refine (compare_any _ _ _ (by omega) (by omega)).mono ?_; rintro e w4 ⟨rfl, rfl⟩))
  all_goals go_wp2
  all_goals go_ret
  all_goals exact ⟨ret_int hR.out, hW.trans ((‹Below W.heap.size W _› : Below W.heap.size W _).mono (by omega))⟩
theorem kindI (o : Ob) : (fO o).1 = 1 ∨ (fO o).1 = 2 ∨ (fO o).1 = 3 ∨ (fO o).1 = 4 := by cases o <;> simp [fO]
theorem rank_f (o : Ob) : rankI (fO o).1 = o.rank := by cases o <;> rfl
def ordF (a b : Ob) : Int := if a.isCons && b.isCons then 0 else ordO a b
theorem ordF_ne {a b : Ob} (h : a.rank ≠ b.rank) : ordI (rankI (fO a).1) (rankI (fO b).1) = ordF a b ∧ ordI (rankI (fO a).1) (rankI (fO b).1) ≠ 0 := by
 rw [rank_f, rank_f]
 unfold ordF
 have hc : (a.isCons && b.isCons) = false := by cases a <;> cases b <;> first | rfl | exact absurd rfl h
 rw [hc]
 simp only [Bool.false_eq_true, if_false]
 rcases Int.lt_or_gt_of_ne h with g | g
 · rw [ordO_less g, ordI_lt g]; exact ⟨rfl, by omega⟩
 · rw [ordO_more g, ordI_gt g]; exact ⟨rfl, by omega⟩

theorem cmpF_ne (b k b' k' : Nat) (w : World) (x y : Int) (hx : x = 1 ∨ x = 2 ∨ x = 3 ∨ x = 4) (hy : y = 1 ∨ y = 2 ∨ y = 3 ∨ y = 4) (hr : ordI (rankI x) (rankI y) ≠ 0)
 (l0 : w.cell? ⟨b, k, none⟩ = some (.int .i64 x)) (m0 : w.cell? ⟨b', k', none⟩ = some (.int .i64 y)) :
 Calls Tryz.prog 164 #[.pointer (some ⟨b, k, none⟩), .pointer (some ⟨b', k', none⟩)] w (RetI w (ordI (rankI x) (rankI y))) := by
 have HX := qh9 hx
 have HY := qh9 hy
 have hn : (ordI (rankI x) (rankI y) != 0) = true := by rw [bne_iff_ne]; exact hr
 clear hx hy hr
 go_enter Tryz.func164, Tryz.ntmps164
 go_wp2_with fail
 go_quiet ((first | (go_at_call 177; exact quiet_same (rankP _ _)) | (go_at_call 144; exact quiet_same (cmpAny _ _ _))))
 go_wp2
 go_ret
 exact ⟨rfl, rfl, rfl, rfl, Nat.le_refl _, fun _ _ => rfl⟩

theorem cmpF_cons (b k b' k' : Nat) (w : World)
 (l0 : w.cell? ⟨b, k, none⟩ = some (.int .i64 4)) (m0 : w.cell? ⟨b', k', none⟩ = some (.int .i64 4)) :
 Calls Tryz.prog 164 #[.pointer (some ⟨b, k, none⟩), .pointer (some ⟨b', k', none⟩)] w (RetI w 0) := by
 have hn : ordI (rankI 4) (rankI 4) = 0 := rfl
 go_enter Tryz.func164, Tryz.ntmps164
 go_wp2_with fail
 go_quiet ((first | (go_at_call 177; exact quiet_same (rankP _ _)) | (go_at_call 144; exact quiet_same (cmpAny _ _ _))))
 go_wp2
 go_ret
 exact ⟨rfl, rfl, rfl, rfl, Nat.le_refl _, fun _ _ => rfl⟩

theorem strCmp (s t : ByteArray) (w : World) : Calls Tryz.prog 179 #[.string s, .string t] w fun e w' => e = .returned (.int .i64 (ordB (LA s) (LA t))) ∧ w = w' :=
 (Tryz.strings_Compare s t w).mono fun e w' ⟨h1, h2⟩ => ⟨h1, h2.symm⟩
theorem cmpF_str (b k b' k' : Nat) (w : World) (s t : ByteArray)
 (l0 : w.cell? ⟨b, k, none⟩ = some (.int .i64 3)) (m0 : w.cell? ⟨b', k', none⟩ = some (.int .i64 3))
 (l5 : w.cell? ⟨b, k + 5, none⟩ = some (.string s)) (m5 : w.cell? ⟨b', k' + 5, none⟩ = some (.string t)) :
 Calls Tryz.prog 164 #[.pointer (some ⟨b, k, none⟩), .pointer (some ⟨b', k', none⟩)] w (RetI w (ordB (LA s) (LA t))) := by
 have hn : ordI (rankI 3) (rankI 3) = 0 := rfl
 go_enter Tryz.func164, Tryz.ntmps164
 go_wp2_with fail
 go_quiet ((first | (go_at_call 177; exact quiet_same (rankP _ _)) | (go_at_call 144; exact quiet_same (cmpAny _ _ _))))
 go_wp2_with fail
 have Q : Below w.heap.size w (w.drewN nq) := ⟨rfl, rfl, rfl, Nat.le_refl _, fun _ _ => rfl⟩
 replace Q := qh9 Q
 change (w.drewN nq).cell? _ = _ at l5 m5
 clear l0 m0 hn
 generalize w.drewN nq = w1 at l5 m5 Q ⊢
 go_quiet ((go_at_call 179; exact quiet_same (strCmp _ _ _)))
 have Q2 := qh9 (Q.out.trans (⟨rfl, rfl, rfl, Nat.le_refl _, fun _ _ => rfl⟩ : Below w.heap.size w1 (w1.drewN nq)))
 go_wp2
 go_ret
 exact ⟨rfl, Q2.out⟩

theorem cmpF_sym (b k b' k' : Nat) (w : World) (s t s' t' : ByteArray)
 (l0 : w.cell? ⟨b, k, none⟩ = some (.int .i64 2)) (m0 : w.cell? ⟨b', k', none⟩ = some (.int .i64 2))
 (l3 : w.cell? ⟨b, k + 3, none⟩ = some (.string s)) (m3 : w.cell? ⟨b', k' + 3, none⟩ = some (.string s'))
 (l4 : w.cell? ⟨b, k + 4, none⟩ = some (.string t)) (m4 : w.cell? ⟨b', k' + 4, none⟩ = some (.string t')) :
 Calls Tryz.prog 164 #[.pointer (some ⟨b, k, none⟩), .pointer (some ⟨b', k', none⟩)] w (RetI w (ordS (LA s) (LA t) (LA s') (LA t'))) := by
 have hn : ordI (rankI 2) (rankI 2) = 0 := rfl
 go_enter Tryz.func164, Tryz.ntmps164
 go_wp2_with fail
 go_quiet ((first | (go_at_call 177; exact quiet_same (rankP _ _)) | (go_at_call 144; exact quiet_same (cmpAny _ _ _))))
 go_wp2_with fail
 have Q : Below w.heap.size w (w.drewN nq) := ⟨rfl, rfl, rfl, Nat.le_refl _, fun _ _ => rfl⟩
 replace Q := qh9 Q
 change (w.drewN nq).cell? _ = _ at l3 m3 l4 m4
 clear l0 m0 hn
 generalize w.drewN nq = w1 at l3 m3 l4 m4 Q ⊢
 go_still_tail 22, (by kernel_rfl)
 still_call (Tryz.strings_Compare t t' _)
 repeat still_step
 still_call (Tryz.strings_Compare s s' _)
 refine wpStill_nil ?_
 change wpList _ _ _ _ _ w1.drew
 have Q2 := Q.out.drew
 clear l3 m3 l4 m4
 generalize w1.drew = w2 at Q2 ⊢
 go_wp2_with fail
 refine (orP _ _ _ _ (by rw [cell_of_row _ _ _ _ _ _ (heap_alloc_new w2 _)]; rfl) (by rw [cell_of_row _ _ _ _ _ _ (heap_alloc_new w2 _)]; rfl)).mono ?_
 rintro e w3 ⟨rfl, rfl⟩
 have Q3 := qh9 (Below.alloc Q2 Q2.size (.cells #[.int .i64 (Lib.compareBytes t.data.toList t'.data.toList), .int .i64 (Lib.compareBytes s.data.toList s'.data.toList)] 3))
 clear Q2
 go_wp2
 go_ret
 exact ⟨rfl, Q3.out⟩

theorem cmpF_num (d : Nat) (hd : d ≤ 1000) (x y : Rat) (hx : Bd d x) (hy : Bd d y) (b k b' k' : Nat) (w : World)
 (l0 : w.cell? ⟨b, k, none⟩ = some (.int .i64 1)) (l1 : w.cell? ⟨b, k + 1, none⟩ = some (.string (nt x))) (l2 : w.cell? ⟨b, k + 2, none⟩ = some (.string (dt x))) (l3 : w.cell? ⟨b, k + 3, none⟩ = some e0) (l4 : w.cell? ⟨b, k + 4, none⟩ = some e0) (l5 : w.cell? ⟨b, k + 5, none⟩ = some e0) (l6 : w.cell? ⟨b, k + 6, none⟩ = some (.slice none 0 0))
 (m0 : w.cell? ⟨b', k', none⟩ = some (.int .i64 1)) (m1 : w.cell? ⟨b', k' + 1, none⟩ = some (.string (nt y))) (m2 : w.cell? ⟨b', k' + 2, none⟩ = some (.string (dt y))) (m3 : w.cell? ⟨b', k' + 3, none⟩ = some e0) (m4 : w.cell? ⟨b', k' + 4, none⟩ = some e0) (m5 : w.cell? ⟨b', k' + 5, none⟩ = some e0) (m6 : w.cell? ⟨b', k' + 6, none⟩ = some (.slice none 0 0)) :
 Calls Tryz.prog 164 #[.pointer (some ⟨b, k, none⟩), .pointer (some ⟨b', k', none⟩)] w (RetI w (ordQ x y)) := by
 have hn : ordI (rankI 1) (rankI 1) = 0 := rfl
 have C : Hid (∀ w, Calls Tryz.prog 178 #[.agg #[.int .i64 1, .string (nt x), .string (dt x), e0, e0, e0, .slice none 0 0], .agg #[.int .i64 1, .string (nt y), .string (dt y), e0, e0, e0, .slice none 0 0]] w (RetI w (ordQ x y))) := fun w => cmpNumP d hd x y w hx hy
 clear hx hy
 unfold e0 at *
 go_enter Tryz.func164, Tryz.ntmps164
 go_wp2_with fail
 go_quiet ((first | (go_at_call 177; exact quiet_same (rankP _ _)) | (go_at_call 144; exact quiet_same (cmpAny _ _ _))))
 go_wp2_with fail
 have Q : Below w.heap.size w (w.drewN nq) := ⟨rfl, rfl, rfl, Nat.le_refl _, fun _ _ => rfl⟩
 replace Q := qh9 Q
 change (w.drewN nq).cell? _ = _ at l0 m0 l1 m1 l2 m2 l3 m3 l4 m4 l5 m5 l6 m6
 clear hn
 generalize w.drewN nq = w1 at l0 m0 l1 m1 l2 m2 l3 m3 l4 m4 l5 m5 l6 m6 Q ⊢
 go_still_tail 6, (by kernel_rfl)
 change wpList _ _ _ _ _ w1.drew
 have Q2 := Q.out.drew
 clear l0 m0 l1 m1 l2 m2 l3 m3 l4 m4 l5 m5 l6 m6
 generalize w1.drew = w2 at Q2 ⊢
 go_wp2_with fail
 refine (C.out w2).mono ?_
 rintro e w3 ⟨rfl, hb⟩
 have Q3 := qh9 (Q2.trans (hb.mono Q2.size))
 clear hb Q2
 go_wp2
 go_ret
 exact ⟨rfl, Q3.out⟩
theorem cmpFieldsP (d : Nat) (hd : d ≤ 1000) (a a' : Ob) (b k b' k' : Nat) (p p' : Value) (w : World) (S : Nat → Prop) (ha : a.bd d) (ha' : a'.bd d) (h : At w S a b k p) (h' : At w S a' b' k' p') :
 Calls Tryz.prog 164 #[.pointer (some ⟨b, k, none⟩), .pointer (some ⟨b', k', none⟩)] w (RetI w (ordF a a')) := by
 obtain ⟨x0, x1, x2, x3, x4, x5, e, l0, l1, l2, l3, l4, l5, l6⟩ := h.cells
 obtain ⟨y0, y1, y2, y3, y4, y5, e', m0, m1, m2, m3, m4, m5, m6⟩ := h'.cells
 rw [cellsO_f] at e e'
 simp only [List.cons.injEq, and_true] at e e'
 obtain ⟨rfl, rfl, rfl, rfl, rfl, rfl⟩ := e
 obtain ⟨rfl, rfl, rfl, rfl, rfl, rfl⟩ := e'
 by_cases hr : a.rank = a'.rank
 · cases a with
   | num q =>
    cases a' with
    | num q' =>
     obtain rfl := h.2.2.flat rfl
     obtain rfl := h'.2.2.flat rfl
     exact cmpF_num d hd q q' ha ha' b k b' k' w l0 l1 l2 l3 l4 l5 l6 m0 m1 m2 m3 m4 m5 m6
    | _ => simp [Ob.rank] at hr
   | str s =>
    cases a' with
    | str s' =>
     have h := cmpF_str b k b' k' w (BA s) (BA s') l0 m0 l5 m5
     rw [LA_BA, LA_BA] at h
     exact h
    | _ => simp [Ob.rank] at hr
   | sym s t =>
    cases a' with
    | sym s' t' =>
     have h := cmpF_sym b k b' k' w (BA s) (BA t) (BA s') (BA t') l0 m0 l3 m3 l4 m4
     rw [LA_BA, LA_BA, LA_BA, LA_BA] at h
     exact h
    | _ => simp [Ob.rank] at hr
   | cons x y =>
    cases a' with
    | cons x' y' => exact cmpF_cons b k b' k' w l0 m0
    | _ => simp [Ob.rank] at hr
 · obtain ⟨h1, h2⟩ := ordF_ne hr
   rw [← h1]
   exact cmpF_ne b k b' k' w _ _ (kindI a) (kindI a') h2 l0 m0
def CmpAt (w : World) (g : Nat) (x : Bool) (k : Nat) : Prop := w.heap[g]? = some (.cells #[.bool x, .int .i64 k, .map none] 145 (0, 0))
def Run (w wr : World) (g : Nat) (x : Bool) (lo hi : Nat) : Prop := w.grownBy wr (some g) ∧ ∃ k, CmpAt wr g x k ∧ lo ≤ k ∧ k ≤ hi
theorem CmpAt.lt {w : World} {g : Nat} {x : Bool} {k : Nat} (h : CmpAt w g x k) : g < w.heap.size := by
 unfold CmpAt at h
 rcases Nat.lt_or_ge g w.heap.size with hlt | hge
 · exact hlt
 · rw [Array.getElem?_eq_none hge] at h; cases h
theorem CmpAt.c0 {w : World} {g : Nat} {x : Bool} {k : Nat} (h : CmpAt w g x k) : w.cell? ⟨g, 0, none⟩ = some (.bool x) := by rw [cell_of_row _ _ _ _ _ _ h]; rfl
theorem CmpAt.c1 {w : World} {g : Nat} {x : Bool} {k : Nat} (h : CmpAt w g x k) : w.cell? ⟨g, 1, none⟩ = some (.int .i64 k) := by rw [cell_of_row _ _ _ _ _ _ h]; rfl
theorem CmpAt.f1 {w : World} {g : Nat} {x : Bool} {k : Nat} (h : CmpAt w g x k) : w.frozen? ⟨g, 1, none⟩ = false := by
 unfold CmpAt at h
 simp [World.frozen?, h]
theorem CmpAt.set {w : World} {g : Nat} {x : Bool} {k : Nat} (h : CmpAt w g x k) (k' : Nat) : CmpAt (w.setCell ⟨g, 1, none⟩ (.int .i64 (k' : Nat))) g x k' := by
 unfold CmpAt at h ⊢
 simp [World.setCell, Array.getElem?_modify, h]
theorem Run.start {w : World} {g : Nat} {x : Bool} {k : Nat} (h : CmpAt w g x k) : Run w w g x k k := ⟨⟨rfl, rfl, rfl, Nat.le_refl _, fun _ _ _ => rfl⟩, k, h, Nat.le_refl _, Nat.le_refl _⟩
theorem Run.below {w wr w' : World} {g : Nat} {x : Bool} {lo hi : Nat} (h : Run w wr g x lo hi) (hb : Below wr.heap.size wr w') : Run w w' g x lo hi := by
 obtain ⟨hg, k, hc, h1, h2⟩ := h
 exact ⟨⟨hb.os.trans hg.os, hb.tape.trans hg.tape, hb.output.trans hg.output, Nat.le_trans hg.size hb.size, fun i hi hn => (hb.block i (Nat.lt_of_lt_of_le hi hg.size)).trans (hg.block i hi hn)⟩, k, (hb.block g hc.lt).trans hc, h1, h2⟩
theorem Run.drewN {w wr : World} {g : Nat} {x : Bool} {lo hi : Nat} (h : Run w wr g x lo hi) (n : Nat) : Run w (wr.drewN n) g x lo hi := h.below ⟨rfl, rfl, rfl, Nat.le_refl _, fun _ _ => rfl⟩
theorem Run.drew {w wr : World} {g : Nat} {x : Bool} {lo hi : Nat} (h : Run w wr g x lo hi) : Run w wr.drew g x lo hi := h.below ⟨rfl, rfl, rfl, Nat.le_refl _, fun _ _ => rfl⟩
theorem Run.more {w wr : World} {g : Nat} {x : Bool} {lo hi hi' : Nat} (h : Run w wr g x lo hi) (hh : hi ≤ hi') : Run w wr g x lo hi' := by
 obtain ⟨hg, k, hc, h1, h2⟩ := h
 exact ⟨hg, k, hc, h1, Nat.le_trans h2 hh⟩
theorem Run.trans {w wr w' : World} {g : Nat} {x : Bool} {lo hi' k : Nat} (h : w.grownBy wr (some g)) (hk : lo ≤ k) (h' : Run wr w' g x k hi') : Run w w' g x lo hi' := by
 obtain ⟨hg, k', hc, h1, h2⟩ := h'
 refine ⟨⟨hg.os.trans h.os, hg.tape.trans h.tape, hg.output.trans h.output, Nat.le_trans h.size hg.size, fun i hi hn => (hg.block i (Nat.lt_of_lt_of_le hi h.size) hn).trans (h.block i hi hn)⟩, k', hc, by omega, h2⟩
theorem Run.set {w wr : World} {g : Nat} {x : Bool} {lo k : Nat} (h : w.grownBy wr (some g)) (hc : CmpAt wr g x k) (hlo : lo ≤ k) : Run w (wr.setCell ⟨g, 1, none⟩ (.int .i64 ((k + 1 : Nat) : Int))) g x lo (k + 1) := by
 refine ⟨⟨h.os, h.tape, h.output, by simpa [World.setCell] using h.size, fun i hi hn => ?_⟩, k + 1, hc.set (k + 1), by omega, Nat.le_refl _⟩
 exact (Below.heap_setCell wr ⟨g, 1, none⟩ _ i (fun e => hn (by rw [e]))).trans (h.block i hi hn)
theorem At.run {w wr : World} {S : Nat → Prop} {g : Nat} {x : Bool} {lo hi : Nat} {o : Ob} {b k : Nat} {p : Value} (h : At w S o b k p) (hS : In S w) (hg : ¬ S g) (r : Run w wr g x lo hi) : At wr S o b k p :=
 h.keep (fun _ h => h) fun q hq => r.1.block q (hS q hq) (fun e => hg (by injection e with e; rwa [e] at hq))

theorem owp_ne {x : Bool} {a b : Ob} (h : owp x a b ≠ 0) : ordX x a b = owp x a b := by
 unfold owp at h ⊢
 split
 · rename_i hc; rw [if_pos hc] at h; exact absurd rfl h
 · rfl
theorem owp_eq {x : Bool} {a b : Ob} (h : owp x a b = 0) : a = b ∧ a.isCons = false ∨ a.isCons = true ∧ b.isCons = true := by
 unfold owp at h
 split at h
 · rename_i hc
   right
   simpa using hc
 · rename_i hc
   have e := (ordX_zero x a b).1 h
   subst e
   left
   refine ⟨rfl, ?_⟩
   cases hh : a.isCons with
   | false => rfl
   | true => exact absurd (by rw [hh]; rfl) hc

theorem owpP (d : Nat) (hd : d ≤ 1000) (a a' : Ob) (b k b' k' : Nat) (p p' : Value) (w : World) (S : Nat → Prop) (ha : a.bd d) (ha' : a'.bd d) (h : At w S a b k p) (h' : At w S a' b' k' p') (g : Nat) (x : Bool) (hc : w.cell? ⟨g, 0, none⟩ = some (.bool x)) :
 Calls Tryz.prog 143 #[.pointer (some ⟨g, 0, none⟩), .pointer (some ⟨b, k, none⟩), .pointer (some ⟨b', k', none⟩)] w (RetI w (owp x a a')) := by
 cases x with
 | false =>
  have call := qh9 (cmpFieldsP d hd a a' b k b' k' p p' w S ha ha' h h')
  have hr : Hid (ordF a a' = owp false a a') := rfl
  clear h h' ha ha'
  go_enter Tryz.func143, Tryz.ntmps143
  go_wp2_with fail
  refine call.out.mono ?_
  rintro e w' ⟨rfl, hb⟩
  have HB := qh9 hb
  clear hb
  go_wp2
  go_ret
  exact ⟨ret_int hr.out, HB.out⟩
 | true =>
  have call := qh9 (sameP a a' b k b' k' p p' w S h h')
  have hr : Hid (owp true a a' = if a.same a' then 0 else 1) := by
   show _ = _
   unfold owp Ob.same ordX eqI
   cases a.isCons && a'.isCons <;> simp
  clear h h' ha ha'
  rw [hr.out]
  generalize a.same a' = r at call ⊢
  cases r
  · go_enter Tryz.func143, Tryz.ntmps143
    go_wp2_with fail
    refine call.out.mono ?_
    intro e w' hq
    obtain ⟨rfl, hb⟩ := hq.below
    have HB := qh9 hb
    clear hb hq
    go_wp2
    go_ret
    exact ⟨rfl, HB.out⟩
  · go_enter Tryz.func143, Tryz.ntmps143
    go_wp2_with fail
    refine call.out.mono ?_
    intro e w' hq
    obtain ⟨rfl, hb⟩ := hq.below
    have HB := qh9 hb
    clear hb hq
    go_wp2
    go_ret
    exact ⟨rfl, HB.out⟩

theorem settled0 (g : Nat) (w : World) :
 Calls Tryz.prog 145 #[.pointer (some ⟨g, 0, none⟩), .slice none 0 0, .slice none 0 0] w (QuietV w (.bool true)) := by
 go_enter Tryz.func145, Tryz.ntmps145
 go_wp2_with fail
 go_quiet (fail)
 go_wp2
 go_ret
 exact ⟨rfl, _, rfl⟩
theorem settledSame (g b o c c' : Nat) (w : World) :
 Calls Tryz.prog 145 #[.pointer (some ⟨g, 0, none⟩), .slice (some ⟨b, o, none⟩) 2 c, .slice (some ⟨b, o, none⟩) 2 c'] w (QuietV w (.bool true)) := by
 have e : (Tryz.prog.info? 33).map (fun i => decide (i.size ≠ 0)) = some true := by kernel_rfl
 obtain ⟨j, hj⟩ : ∃ j, Tryz.prog.info? 33 = some j := by
  generalize Tryz.prog.info? 33 = i at e
  cases i with
  | none => cases e
  | some j => exact ⟨j, rfl⟩
 have he : ∀ w, (binOp .eql 147 (.pointer (some ⟨b, o, none⟩)) (.pointer (some ⟨b, o, none⟩))).run Tryz.prog w = .ok (.bool true) w := fun w => run_eql_ptr_same w ⟨b, o, none⟩ Tryz.underlying147 hj
 clear e hj
 go_enter Tryz.func145, Tryz.ntmps145
 go_wp2_with fail
 go_quiet (fail)
 go_wp2
 go_ret
 exact ⟨rfl, _, rfl⟩
theorem settledOther (g b o c b' o' c' : Nat) (w0 w : World) (x : Bool) (lo hi : Nat) (he : ∀ n, (binOp .eql 147 (.pointer (some ⟨b, o, none⟩)) (.pointer (some ⟨b', o', none⟩))).run Tryz.prog (w.drewN n) = .ok (.bool false) (w.drewN n)) (hr : Run w0 w g x lo hi) (hh : hi + 1 ≤ 3000) :
 Calls Tryz.prog 145 #[.pointer (some ⟨g, 0, none⟩), .slice (some ⟨b, o, none⟩) 2 c, .slice (some ⟨b', o', none⟩) 2 c'] w (fun e w' => e = .returned (.bool false) ∧ Run w0 w' g x lo (hi + 1)) := by
 obtain ⟨hg, k, hc, h1, h2⟩ := hr
 have c1 := hc.c1
 have f1 := hc.f1
 have hk : (k : Int) + 1 ≤ 3000 := by omega
 have hk0 : (k : Int) ≤ 3000 := by omega
 have R : Hid (∀ n, Run w0 ((w.drewN n).setCell ⟨g, 1, none⟩ (.int .i64 ((k + 1 : Nat) : Int))) g x lo (hi + 1)) := fun n =>
  (Run.set (wr := w.drewN n) (Run.drewN (show Run w0 w g x lo k from ⟨hg, k, hc, h1, Nat.le_refl _⟩) n).1 hc h1).more (by omega)
 clear hc hg
 go_enter Tryz.func145, Tryz.ntmps145
 go_wp2_with fail
 go_quiet (fail)
 go_wp2
 go_ret
 exact ⟨rfl, R.out _⟩
end Go.Proofs.YtinjhnnpbejccaaGreatDoor
