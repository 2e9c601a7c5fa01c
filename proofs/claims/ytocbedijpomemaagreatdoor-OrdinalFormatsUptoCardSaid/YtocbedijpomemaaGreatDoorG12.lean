import Derived.Test.YtocbedijpomemaaGreatDoorAl
import Derived.Test.YtocbedijpomemaaGreatDoorG11
import Derived.Test.YtocbedijpomemaaGreatDoorSh0
import Derived.Lib.LaidTab
import Derived.WalkSmall
import Derived.StillTailTactics
import Derived.IntWalk
import Derived.LaidEqlPtr
import Derived.Deep.MidRow
import Derived.Laws.MakeOwn
import Derived.Deep.QuietTactic
import Derived.BigQuiet
import Derived.Deep.RegionHeld3
import Derived.Deep.RegionWith
import Derived.Deep.DeepCutAuto
namespace Go.Proofs.YtocbedijpomemaaGreatDoor
open Go Go.RowKit
set_option linter.unusedVariables false
set_option maxHeartbeats 32000000
set_option maxRecDepth 100000
def Tab (w : World) : Prop := Lib.TabIs Tryz.prog w "internal/strconv.uint64pow10" .u64 Lib.pow10Tab
theorem tab_global : Tryz.prog.globalNamed "internal/strconv.uint64pow10" = some 0 := by kernel_rfl
theorem Tab.pos {w : World} (h : Tab w) : 0 < w.heap.size := by
 have h1 := World.var?_cell tab_global h 0
 have h2 : w.cell? ⟨0, 0, none⟩ = some (.int .u64 1) := by rw [h1]; rfl
 exact World.block_lt_of_cell? w _ h2
theorem Tab.below {w w' : World} (h : Tab w) (hb : Below w.heap.size w w') : Tab w' := var?_below hb tab_global h.pos h
theorem below_grow /- 48 -/ (w : World) (k : Nat) (os : Array Obj) : Below w.heap.size w (Go.Sort.grow (w.drewN k) os) := by
 refine ⟨rfl, rfl, rfl, by simp [Go.Sort.grow], fun b hb => ?_⟩
 simp only [Go.Sort.grow, World.heap_drewN]
 rw [Array.getElem?_append_left hb]
theorem itoa_any (n : Int) (w : World) (h : Hid (I64 n)) (ht : Tab w) : Calls Tryz.prog 48 #[.int .i64 n] w (RetS w n) :=
 (Tryz.strconv_Itoa n h.out.1 h.out.2 w ht).mono fun e w' ⟨h1, k, os, h2⟩ => by
  subst h2
  refine ⟨h1.trans ?_, below_grow w k os⟩
  rw [itoa_eq]
  rfl
theorem text_of_int {n : Int} (h : Hid (I64 n)) : (BA (text n)).size ≤ 100 := by
 rw [BA_size]
 have h1 := text_length (x := n) (k := 20) (by have := h.out; unfold I64 at this; omega)
 omega

theorem fromIntR (n : Int) (w : World) (h : Hid (I64 n)) (ht : Tab w) :
 Calls Tryz.prog 22 #[.int .i64 n] w (RetS w n) := by
 replace ht := qh9 ht
 go_enter Tryz.func22, Tryz.ntmps22
 go_wp2_with fail
 refine (itoa_any n w h ht.out).mono ?_
 rintro e w1 ⟨rfl, hb1⟩
 go_wp2
 go_ret
 exact ⟨rfl, hb1⟩

theorem intO (n : Int) (w : World) (S : Nat → Prop) (hS : In S w) (h : Hid (I64 n)) (ht : Tab w) :
 Calls Tryz.prog 20 #[.int .i64 n] w (RetO w S (.num (n : Rat))) := by
 replace ht := qh9 ht
 have hq : quo (LA (BA (text n))) (LA ⟨#[49]⟩) = (n : Rat) := by
  rw [show (⟨#[49]⟩ : ByteArray) = BA (text 1) from by decide, quo_text, q_int]
 have HQ := qh9 hq
 clear hq
 go_enter Tryz.func20, Tryz.ntmps20
 go_wp2_with fail
 have hb0 : Below w.heap.size w (w.alloc (Obj.cells #[Value.int IntKind.i64 0, Value.string { data := #[] }, Value.string { data := #[] }, Value.string { data := #[] }, Value.string { data := #[] }, Value.string { data := #[] }, Value.slice none 0 0] 35)) := Below.alloc (Below.refl _ _) (Nat.le_refl _) _
 have hg0 := heap_alloc_new w (Obj.cells #[Value.int IntKind.i64 0, Value.string { data := #[] }, Value.string { data := #[] }, Value.string { data := #[] }, Value.string { data := #[] }, Value.string { data := #[] }, Value.slice none 0 0] 35)
 refine (fromIntR n _ h (ht.out.below hb0)).mono ?_
 rintro e w1 ⟨rfl, hb1⟩
 have h12 := hb1.size
 simp only [World.size_alloc] at h12
 have hg1 := (hb1.block w.heap.size (by simp)).trans hg0
 clear hg0
 have hbw := hb0.trans (hb1.mono hb0.size)
 replace hg1 := qh9 hg1
 go_wp2_with fail
 refine (ratO _ ⟨#[49]⟩ w1 (fun _ => False) (fun _ h => h.elim) (by have := text_of_int h; omega) (by decide)).mono ?_
 rintro e w2 ⟨p, rfl, hp, hb2⟩
 rw [HQ.out] at hp ⊢
 have h23 := hb2.size
 have hg2 := qh9 ((hb2.block w.heap.size (by omega)).trans hg1.out)
 go_wp2_with (refine storeV (w1 := w2) rfl (.tmp 2) (.tmp 5) rfl w.heap.size _ _ rfl rfl hp _ _ hg2.out rfl ?_)
 exact retV rfl rfl hg2.out hp (fun h => by
  rcases h with h | ⟨h, _⟩
  · exact h
  · omega) (fun b hb => by
  rcases hb with hb | ⟨h1, h2⟩
  · exact hb.elim
  · exact .inr ⟨by omega, h2⟩) (Nat.le_refl _) (hbw.trans (hb2.mono hbw.size))
def ObsAt (w : World) (S : Nat → Prop) (b o : Nat) : List Ob → Prop
 | [] => True
 | r :: rs => (∃ p, Pair w S r p ∧ ∀ j u, (cellsO r p)[j]? = some u → w.cell? ⟨b, o + j, none⟩ = some u) ∧ ObsAt w S b (o + 7) rs
theorem ObsAt.get {w : World} {S : Nat → Prop} {b : Nat} : ∀ {l : List Ob} {o i : Nat} (hi : i < l.length), ObsAt w S b o l → ∃ p, Pair w S l[i] p ∧ ∀ j u, (cellsO l[i] p)[j]? = some u → w.cell? ⟨b, o + i * 7 + j, none⟩ = some u
 | r :: rs, o, 0, hi, h => by
  unfold ObsAt at h
  obtain ⟨p, h1, h2⟩ := h.1
  exact ⟨p, h1, fun j u hj => by rw [Nat.zero_mul, Nat.add_zero]; exact h2 j u hj⟩
 | r :: rs, o, i + 1, hi, h => by
  unfold ObsAt at h
  obtain ⟨p, h1, h2⟩ := ObsAt.get (l := rs) (o := o + 7) (i := i) (by simpa using hi) h.2
  exact ⟨p, h1, fun j u hj => by rw [show o + (i + 1) * 7 + j = o + 7 + i * 7 + j from by omega]; exact h2 j u hj⟩
theorem list_drop {l : List Ob} {i : Nat} (hi : i < l.length) : Ob.list (l.drop i) = .cons l[i] (Ob.list (l.drop (i + 1))) := by
 rw [List.drop_eq_getElem_cons hi]; rfl
def ListW (w W wr : World) (S : Nat → Prop) (l : List Ob) (g k : Nat) : Prop :=
 ∃ p t, wr.heap[g]? = some (.cells (cellsO (Ob.list (l.drop k)) p).toArray t (0, 0)) ∧ Pair wr (fun b => S b ∨ (g < b ∧ b < wr.heap.size)) (Ob.list (l.drop k)) p ∧ Below g W wr

theorem listO (l : List Ob) (A : Option Addr) (c : Nat) (w : World) (S : Nat → Prop) (hS : In S w) (hc : l.length ≤ c) (hl : l.length ≤ 100000)
 (hA : 0 < l.length → ∃ b o, A = some ⟨b, o, none⟩ ∧ S b ∧ ObsAt w S b o l) :
 Calls Tryz.prog 28 #[.slice A l.length c] w (RetO w S (Ob.list l)) := by
 obtain ⟨L, hL⟩ : ∃ L, l.length = L := ⟨_, rfl⟩
 rw [hL] at hc hA hl ⊢
 have HL := qh9 hL
 have HA := qh9 hA
 clear hL hA
 go_enter Tryz.func28, Tryz.ntmps28
 go_wp2_with fail
 have hb0 : Below w.heap.size w (w.alloc (Obj.cells #[Value.int IntKind.i64 0, Value.string { data := #[] }, Value.string { data := #[] }, Value.string { data := #[] }, Value.string { data := #[] }, Value.string { data := #[] }, Value.slice none 0 0] 35)) := Below.alloc (Below.refl _ _) (Nat.le_refl _) _
 have hg0 := heap_alloc_new w (Obj.cells #[Value.int IntKind.i64 0, Value.string { data := #[] }, Value.string { data := #[] }, Value.string { data := #[] }, Value.string { data := #[] }, Value.string { data := #[] }, Value.slice none 0 0] 35)
 refine (nilO _ (fun _ => False)).mono ?_
 rintro e w1 ⟨p, rfl, hp, hb1⟩
 have h12 := hb1.size
 simp only [World.size_alloc] at h12
 have hg1 := qh9 ((hb1.block w.heap.size (by simp)).trans hg0)
 have hbw := hb0.trans (hb1.mono hb0.size)
 clear hg0 hb0 hb1
 have hp' : Pair w1 (fun _ => False) .nil p := hp
 go_wp2_with (refine storeV (w1 := w1) rfl (.tmp 3) (.tmp 5) rfl w1.heap.size .nil p rfl rfl hp _ _ (heap_alloc_new w1 _) rfl ?_)
 have hg := setRow_heap (w1.alloc (Obj.cells #[Value.int IntKind.i64 0, Value.string { data := #[] }, Value.string { data := #[] }, Value.string { data := #[] }, Value.string { data := #[] }, Value.string { data := #[] }, Value.slice none 0 0] 35)) w1.heap.size _ (cellsO .nil p).toArray _ _ (heap_alloc_new w1 _)
 have hbW := below_setRowO (Below.alloc hbw (by omega) (Obj.cells #[Value.int IntKind.i64 0, Value.string { data := #[] }, Value.string { data := #[] }, Value.string { data := #[] }, Value.string { data := #[] }, Value.string { data := #[] }, Value.slice none 0 0] 35)) (g := w1.heap.size) (by omega) (cellsO .nil p).toArray
 have hgW : ((w1.alloc (Obj.cells #[Value.int IntKind.i64 0, Value.string { data := #[] }, Value.string { data := #[] }, Value.string { data := #[] }, Value.string { data := #[] }, Value.string { data := #[] }, Value.slice none 0 0] 35)).setRow w1.heap.size (cellsO .nil p).toArray).heap[w.heap.size]? = some (Obj.cells #[Value.int IntKind.i64 0, Value.string { data := #[] }, Value.string { data := #[] }, Value.string { data := #[] }, Value.string { data := #[] }, Value.string { data := #[] }, Value.slice none 0 0] 35) := by
  rw [setRow_other _ _ _ _ (by omega), Below.heap_alloc _ _ _ (by omega)]
  exact hg1.out
 generalize (w1.alloc (Obj.cells #[Value.int IntKind.i64 0, Value.string { data := #[] }, Value.string { data := #[] }, Value.string { data := #[] }, Value.string { data := #[] }, Value.string { data := #[] }, Value.slice none 0 0] 35)).setRow w1.heap.size (cellsO .nil p).toArray = W at hg hbW hgW ⊢
 have h0 : Hid (ListW w W W S l w1.heap.size L) := ⟨p, _, by rw [List.drop_eq_nil_of_le (by rw [HL.out]; exact Nat.le_refl _)]; exact hg, by rw [List.drop_eq_nil_of_le (by rw [HL.out]; exact Nat.le_refl _)]; exact hp', Below.refl _ _⟩
 have HGW := qh9 hgW
 generalize w1.heap.size = g at h12 h0 ⊢
 clear hg hgW hp hp' hg1 hbw
 have h13 : w.heap.size < g := by omega
 go_wp2_with fail
 go_loopw [4] (fun v wr => ∃ k : Nat, k ≤ L ∧ v = .int .i64 ((k : Int) - 1) ∧ Hid (ListW w W wr S l g k)) (fun v _ => (intOf v + 1).toNat)
 case atStart => exact ⟨L, Nat.le_refl _, rfl, h0⟩
 case round =>
  clear h0
  obtain ⟨k, hk, rfl, hE⟩ := hrel
  obtain ⟨wo, rfl⟩ : ∃ wo : World, wo = wr := ⟨_, rfl⟩
  obtain ⟨q, t, hh, hq, hbl⟩ := hE.out
  clear hE
  have hwg : w.heap.size ≤ g := by omega
  have hbwo := hbW.trans (hbl.mono hwg)
  have hgl : g < wo.heap.size := by
   rcases Nat.lt_or_ge g wo.heap.size with h | h
   · exact h
   · rw [Array.getElem?_eq_none h] at hh; cases hh
  obtain ⟨y0, y1, y2, y3, y4, y5, eq⟩ := cells7 (Ob.list (l.drop k)) q
  have m0 : wo.cell? ⟨g, 0, none⟩ = some y0 := by rw [cell_of_row _ _ _ _ _ _ hh, eq]; rfl
  have m1 : wo.cell? ⟨g, 1, none⟩ = some y1 := by rw [cell_of_row _ _ _ _ _ _ hh, eq]; rfl
  have m2 : wo.cell? ⟨g, 2, none⟩ = some y2 := by rw [cell_of_row _ _ _ _ _ _ hh, eq]; rfl
  have m3 : wo.cell? ⟨g, 3, none⟩ = some y3 := by rw [cell_of_row _ _ _ _ _ _ hh, eq]; rfl
  have m4 : wo.cell? ⟨g, 4, none⟩ = some y4 := by rw [cell_of_row _ _ _ _ _ _ hh, eq]; rfl
  have m5 : wo.cell? ⟨g, 5, none⟩ = some y5 := by rw [cell_of_row _ _ _ _ _ _ hh, eq]; rfl
  have m6 : wo.cell? ⟨g, 6, none⟩ = some q := by rw [cell_of_row _ _ _ _ _ _ hh, eq]; rfl
  have HH := qh9 hh
  clear hh
  have hIn : In (fun b => S b ∨ (g < b ∧ b < wo.heap.size)) wo := fun b hb => by
   rcases hb with hb | ⟨_, hb⟩
   · have := hS b hb; omega
   · exact hb
  by_cases hk0 : 0 < k
  · obtain ⟨b, o, rfl, hb, hobs⟩ := HA.out (by omega)
    have hkl : k - 1 < l.length := by rw [HL.out]; omega
    obtain ⟨pa, hpa, hcell⟩ := hobs.get hkl
    have hbl0 : b < w.heap.size := hS b hb
    have hpa' := (hpa.below hS hbwo).more (S' := fun b => S b ∨ (g < b ∧ b < wo.heap.size)) fun _ h => .inl h
    have hld := qh9 (list_drop hkl)
    have call : ∀ wd, Below wo.heap.size wo wd → Calls Tryz.prog 26 #[vO l[k - 1] pa, vO (Ob.list (l.drop k)) q] wd (RetO wd (fun b => S b ∨ (g < b ∧ b < wo.heap.size)) (.cons l[k - 1] (Ob.list (l.drop k)))) :=
     fun wd hbd => consO _ _ pa q wd _ (hIn.later hbd.size) (hpa'.below hIn hbd) (hq.below hIn hbd)
    obtain ⟨x0, x1, x2, x3, x4, x5, ea⟩ := cells7 l[k - 1] pa
    rw [ea] at hcell
    have l0 := (hbwo.cell (p := ⟨b, o + (k - 1) * 7 + 0, none⟩) hbl0).trans (hcell 0 _ rfl)
    have l1 := (hbwo.cell (p := ⟨b, o + (k - 1) * 7 + 1, none⟩) hbl0).trans (hcell 1 _ rfl)
    have l2 := (hbwo.cell (p := ⟨b, o + (k - 1) * 7 + 2, none⟩) hbl0).trans (hcell 2 _ rfl)
    have l3 := (hbwo.cell (p := ⟨b, o + (k - 1) * 7 + 3, none⟩) hbl0).trans (hcell 3 _ rfl)
    have l4 := (hbwo.cell (p := ⟨b, o + (k - 1) * 7 + 4, none⟩) hbl0).trans (hcell 4 _ rfl)
    have l5 := (hbwo.cell (p := ⟨b, o + (k - 1) * 7 + 5, none⟩) hbl0).trans (hcell 5 _ rfl)
    have l6 := (hbwo.cell (p := ⟨b, o + (k - 1) * 7 + 6, none⟩) hbl0).trans (hcell 6 _ rfl)
    rw [Nat.add_zero] at l0
    unfold vO at call
    rw [ea, eq] at call
    have CALL := qh9 call
    have EQ := qh9 eq
    clear call hcell hobs hpa hpa' ea eq
    have hp0 : (0 : Int) ≤ (k : Int) - 1 := by omega
    have hp1 : (k : Int) - 1 < L := by omega
    go_wp2_with fail
    go_still_tail 5, (by kernel_rfl)
    change wpList _ _ _ _ _ wo.drew
    have hbd : Below wo.heap.size wo wo.drew := (Below.refl _ _).drew
    generalize wo.drew = wd at hbd ⊢
    clear l0 l1 l2 l3 l4 l5 l6 m0 m1 m2 m3 m4 m5 m6
    go_wp2_with fail
    refine (CALL.out wd hbd).mono ?_
    rintro e w3 ⟨p3, rfl, hp3, hb3⟩
    have h34 := hb3.size
    have h45 := hbd.size
    have hbe := hbd.trans (hb3.mono hbd.size)
    have hh3 := qh9 ((hbe.block g hgl).trans HH.out)
    go_wp2_with (refine storeV (w1 := w3) rfl (.tmp 3) (.tmp 18) rfl g _ _ rfl rfl hp3 _ _ hh3.out (by simp [cellsO_length]) ?_)
    go_roundw
    case rel =>
     refine ⟨k - 1, by omega, by congr 1; omega, ⟨p3, t, ?_, ?_, below_setRowO (hbl.trans (hbe.mono (by omega))) (Nat.le_refl _) _⟩⟩
     · rw [hld.out, show k - 1 + 1 = k from by omega]
       exact setRow_heap _ _ _ _ _ _ hh3.out
     · rw [hld.out, show k - 1 + 1 = k from by omega]
       refine (hp3.setRow g (fun h => ?_) _).more (fun b h => ?_)
       · rcases h with (h | ⟨h, _⟩) | ⟨h, _⟩
         · have := hS g h; omega
         · omega
         · omega
       · rw [size_setRow]
         rcases h with (h | ⟨h, h2⟩) | ⟨h, h2⟩
         · exact .inl h
         · exact .inr ⟨h, by omega⟩
         · exact .inr ⟨by omega, h2⟩
    case measure => simp [intOf]; omega
  · have hkz : k = 0 := by omega
    subst hkz
    have hh3 := qh9 ((hbl.block w.heap.size (by omega)).trans HGW.out)
    have ev := qh9 (show Value.agg #[y0, y1, y2, y3, y4, y5, q] = vO (Ob.list (l.drop 0)) q from by unfold vO; rw [eq])
    have HQ := qh9 hq
    have hbx := qh9 hbwo
    clear eq hq hbl hbwo
    go_wp2_with (refine storeV (w1 := wo) rfl (.tmp 2) (.tmp 19) rfl w.heap.size _ _ rfl ev.out HQ.out _ _ hh3.out rfl ?_)
    exact retV rfl rfl hh3.out HQ.out (fun h => by
     rcases h with h | ⟨h, _⟩
     · have := hS _ h; omega
     · omega) (fun b hb => by
     rcases hb with hb | ⟨h1, h2⟩
     · exact .inl hb
     · exact .inr ⟨by omega, h2⟩) (Nat.le_refl _) hbx.out
theorem consRawP (a0 a1 a2 a3 a4 a5 a6 b0 b1 b2 b3 b4 b5 b6 : Value) (w : World) :
 Calls Tryz.prog 66 #[.agg #[a0, a1, a2, a3, a4, a5, a6], .agg #[b0, b1, b2, b3, b4, b5, b6]] w fun e w' =>
  ∃ g, e = .returned (.agg #[.int .i64 4, e0, e0, e0, e0, e0, .slice (some ⟨g, 0, none⟩) 2 2]) ∧ w.heap.size ≤ g ∧ g < w'.heap.size ∧
   w'.heap[g]? = some (.cells #[a0, a1, a2, a3, a4, a5, a6, b0, b1, b2, b3, b4, b5, b6] 35 (0, 0)) ∧ Below w.heap.size w w' := by
 go_enter Tryz.func66, Tryz.ntmps66
 go_wp2_with fail
 refine retO rfl rfl (g := w.heap.size + 1 + 1) (t := 35) (fr := (0, 0)) ?_ rfl ⟨w.heap.size + 1 + 1 + 1, rfl, by omega, ?_, ?_, ?_⟩
 · rw [Below.heap_alloc _ _ _ (by simp)]
   exact heap_new_at (by simp)
 · simp
 · exact heap_new_at (by simp)
 · exact Below.alloc (Below.alloc (Below.alloc (Below.alloc (Below.refl _ _) (Nat.le_refl _) _) (by simp) _) (by simp; omega) _) (by simp; omega) _
theorem consP (a d : Ob) (pa pd : Value) (w : World) (S : Nat → Prop) (hS : In S w) (ha : Pair w S a pa) (hd : Pair w S d pd) :
 Calls Tryz.prog 66 #[vO a pa, vO d pd] w (RetO w S (.cons a d)) := by
 obtain ⟨a0, a1, a2, a3, a4, a5, ea⟩ := cells7 a pa
 obtain ⟨b0, b1, b2, b3, b4, b5, eb⟩ := cells7 d pd
 unfold vO
 rw [ea, eb]
 refine (consRawP a0 a1 a2 a3 a4 a5 pa b0 b1 b2 b3 b4 b5 pd w).mono ?_
 rintro e w' ⟨g, rfl, hg0, hg, hh, hb⟩
 refine ⟨.slice (some ⟨g, 0, none⟩) 2 2, rfl, ⟨g, 0, 2, pa, pd, rfl, Nat.le_refl _, ⟨.inr ⟨hg0, hg⟩, _, _, hh⟩, ?_, (ha.below hS hb).more fun _ h => .inl h, (hd.below hS hb).more fun _ h => .inl h⟩, hb⟩
 intro j u hj
 rw [ea, eb] at hj
 rw [Nat.zero_add, cell_of_row w' g j _ _ _ hh, ← hj]
 simp
theorem ratP (s t : ByteArray) (w : World) (S : Nat → Prop) (hS : In S w) (hs : s.size ≤ 400000000) (ht : t.size ≤ 400000000) :
 Calls Tryz.prog 87 #[.string s, .string t] w (RetO w S (.num (quo (LA s) (LA t)))) := by
 go_enter Tryz.func87, Tryz.ntmps87
 go_wp2_with fail
 refine (reduce_q s t _ hs ht).mono ?_
 rintro e w1 ⟨rfl, hb1⟩
 have hg := qh9 ((hb1.block w.heap.size (by simp)).trans (heap_alloc_new w _))
 go_wp2_with (refine storeV (w1 := w1) (S := fun _ => False) rfl (.tmp 4) (.tmp 13) rfl w.heap.size (.num (quo (LA s) (LA t))) (.slice none 0 0) rfl rfl rfl _ _ hg.out rfl ?_)
 exact retV (S' := fun _ => False) rfl rfl hg.out rfl (fun h => h) (fun _ h => h.elim) (Nat.le_refl _) ((Below.alloc (Below.refl _ _) (Nat.le_refl _) _).trans (hb1.mono (by simp)))
theorem fromIntP (n : Int) (w : World) (h : Hid (I64 n)) (ht : Tab w) :
 Calls Tryz.prog 65 #[.int .i64 n] w (RetS w n) := by
 replace ht := qh9 ht
 go_enter Tryz.func65, Tryz.ntmps65
 go_wp2_with fail
 refine (itoa_any n w h ht.out).mono ?_
 rintro e w1 ⟨rfl, hb1⟩
 go_wp2
 go_ret
 exact ⟨rfl, hb1⟩
theorem int_nt (n : Int) : nt (n : Rat) = BA (text n) := by unfold nt; rw [Rat.num_intCast]
theorem int_dt (n : Int) : dt (n : Rat) = ⟨#[49]⟩ := by
 unfold dt; rw [Rat.den_intCast]; decide

theorem intP (n : Int) (w : World) (S : Nat → Prop) (h : Hid (I64 n)) (ht : Tab w) :
 Calls Tryz.prog 41 #[.int .i64 n] w (RetO w S (.num (n : Rat))) := by
 replace ht := qh9 ht
 go_enter Tryz.func41, Tryz.ntmps41
 go_wp2_with fail
 have hb0 : Below w.heap.size w (w.alloc (Obj.cells #[Value.int IntKind.i64 0, Value.string { data := #[] }, Value.string { data := #[] }, Value.string { data := #[] }, Value.string { data := #[] }, Value.string { data := #[] }, Value.slice none 0 0] 35)) := Below.alloc (Below.refl _ _) (Nat.le_refl _) _
 have hg0 := heap_alloc_new w (Obj.cells #[Value.int IntKind.i64 0, Value.string { data := #[] }, Value.string { data := #[] }, Value.string { data := #[] }, Value.string { data := #[] }, Value.string { data := #[] }, Value.slice none 0 0] 35)
 refine (fromIntP n _ h (ht.out.below hb0)).mono ?_
 rintro e w1 ⟨rfl, hb1⟩
 have hg1 := qh9 ((hb1.block w.heap.size (by simp)).trans hg0)
 clear hg0
 have hbw := qh9 (hb0.trans (hb1.mono hb0.size))
 have ev : Hid (Value.agg #[.int .i64 1, .string (BA (text n)), .string ⟨#[49]⟩, e0, e0, e0, .slice none 0 0] = vO (.num (n : Rat)) (.slice none 0 0)) := by
  show _ = Value.agg #[.int .i64 1, .string (nt (n : Rat)), .string (dt (n : Rat)), e0, e0, e0, .slice none 0 0]
  rw [int_nt, int_dt]
 clear hb0 hb1
 go_wp2_with (refine storeV (w1 := w1) (S := fun _ => False) rfl (.tmp 2) (.tmp 5) rfl w.heap.size (.num (n : Rat)) (.slice none 0 0) rfl ev.out rfl _ _ hg1.out rfl ?_)
 exact retV (S' := fun _ => False) rfl rfl hg1.out rfl (fun h => h) (fun _ h => h.elim) (Nat.le_refl _) hbw.out

def Bd (k : Nat) (q : Rat) : Prop := q.num.natAbs < 10 ^ k ∧ q.den < 10 ^ k
theorem bd_nt {k : Nat} {q : Rat} (h : Bd k q) : (nt q).size ≤ k + 2 := by unfold nt; rw [BA_size]; exact text_length h.1
theorem bd_dt {k : Nat} {q : Rat} (h : Bd k q) : (dt q).size ≤ k + 2 := by unfold dt; rw [BA_size]; exact text_length h.2
theorem pow_le {j k : Nat} (h : j ≤ k) : 10 ^ j ≤ 10 ^ k := Nat.pow_le_pow_right (by omega) h
theorem Bd.more {j k : Nat} {q : Rat} (h : Bd j q) (hk : j ≤ k) : Bd k q := ⟨Nat.lt_of_lt_of_le h.1 (pow_le hk), Nat.lt_of_lt_of_le h.2 (pow_le hk)⟩
theorem bd_divInt {k : Nat} {n d : Int} (hn : n.natAbs < 10 ^ k) (hd : d.natAbs < 10 ^ k) (hk : 0 < k) : Bd k (Rat.divInt n d) := by
 by_cases h0 : d = 0
 · subst h0
   rw [Rat.divInt_zero]
   exact ⟨Nat.pow_pos (by omega), Nat.lt_of_lt_of_le (show 1 < 10 ^ 1 by decide) (pow_le hk)⟩
 · constructor
   · rw [Rat.num_divInt]
     refine Nat.lt_of_le_of_lt (Int.natAbs_ediv_le_natAbs _ _) ?_
     rw [Int.natAbs_mul, Int.natAbs_sign_of_ne_zero h0, Nat.one_mul]
     exact hn
   · rw [Rat.den_divInt, if_neg h0]
     exact Nat.lt_of_le_of_lt (Nat.div_le_self _ _) hd
theorem bd_quo {k : Nat} {l m : List UInt8} (hl : l.length ≤ k) (hm : m.length ≤ k) (hk : 0 < k) : Bd k (quo l m) := by
 unfold quo
 refine bd_divInt ?_ ?_ hk
 · rw [val_natAbs]; exact Nat.lt_of_lt_of_le (mag_lt l) (pow_le (by omega))
 · rw [val_natAbs]; exact Nat.lt_of_lt_of_le (mag_lt m) (pow_le (by omega))
theorem lt_pow_mul {a b j k : Nat} (ha : a < 10 ^ j) (hb : b < 10 ^ k) : a * b < 10 ^ (j + k) := by
 rw [Nat.pow_add]
 exact Nat.mul_lt_mul'' ha hb
theorem bd_int {k : Nat} {n : Int} (hn : n.natAbs < 10 ^ k) (hk : 0 < k) : Bd k (n : Rat) := by
 rw [← q_int]
 exact bd_divInt hn (Nat.lt_of_lt_of_le (show 1 < 10 ^ 1 by decide) (pow_le hk)) hk
def Ob.bd (k : Nat) : Ob → Prop
 | .num q => Bd k q
 | .str s => s.length ≤ 2 * k + 20
 | .sym p n => SyOk p n
 | .cons a d => a.bd k ∧ d.bd k
theorem Ob.bd_more {j k : Nat} (hk : j ≤ k) : ∀ {o : Ob}, o.bd j → o.bd k
 | .num _, h => h.more hk
 | .str s, h => by
  have h1 : s.length ≤ 2 * j + 20 := h
  show s.length ≤ 2 * k + 20
  omega
 | .sym _ _, h => h
 | .cons _ _, h => ⟨Ob.bd_more hk h.1, Ob.bd_more hk h.2⟩
def Ob.isCons : Ob → Bool
 | .cons _ _ => true
 | _ => false
def At (w : World) (S : Nat → Prop) (o : Ob) (b k : Nat) (p : Value) : Prop :=
 (S b ∧ Plain w b) ∧ (∀ j u, (cellsO o p)[j]? = some u → w.cell? ⟨b, k + j, none⟩ = some u) ∧ Pair w S o p
theorem At.keep {w w' : World} {S S' : Nat → Prop} (hS : ∀ b, S b → S' b) (hk : ∀ b, S b → w'.heap[b]? = w.heap[b]?) {o : Ob} {b k : Nat} {p : Value} (h : At w S o b k p) : At w' S' o b k p :=
 ⟨⟨hS b h.1.1, h.1.2.keep (hk b h.1.1)⟩, fun j u hj => (World.cell?_of_block (a := ⟨b, k + j, none⟩) (hk b h.1.1)).trans (h.2.1 j u hj), h.2.2.keep hS hk⟩
theorem At.below {w w' : World} {S : Nat → Prop} {B : Nat} {o : Ob} {b k : Nat} {p : Value} (h : At w S o b k p) (hS : ∀ b, S b → b < B) (hb : Below B w w') : At w' S o b k p := h.keep (fun _ h => h) fun q hq => hb.block q (hS q hq)
theorem At.more {w : World} {S S' : Nat → Prop} {o : Ob} {b k : Nat} {p : Value} (h : At w S o b k p) (hS : ∀ b, S b → S' b) : At w S' o b k p := h.keep hS fun _ _ => rfl
theorem At.cells {w : World} {S : Nat → Prop} {o : Ob} {b k : Nat} {p : Value} (h : At w S o b k p) : ∃ x0 x1 x2 x3 x4 x5, cellsO o p = [x0, x1, x2, x3, x4, x5, p] ∧
 w.cell? ⟨b, k, none⟩ = some x0 ∧ w.cell? ⟨b, k + 1, none⟩ = some x1 ∧ w.cell? ⟨b, k + 2, none⟩ = some x2 ∧ w.cell? ⟨b, k + 3, none⟩ = some x3 ∧ w.cell? ⟨b, k + 4, none⟩ = some x4 ∧ w.cell? ⟨b, k + 5, none⟩ = some x5 ∧ w.cell? ⟨b, k + 6, none⟩ = some p := by
 obtain ⟨x0, x1, x2, x3, x4, x5, e⟩ := cells7 o p
 have hc := h.2.1
 rw [e] at hc
 exact ⟨x0, x1, x2, x3, x4, x5, e, hc 0 _ rfl, hc 1 _ rfl, hc 2 _ rfl, hc 3 _ rfl, hc 4 _ rfl, hc 5 _ rfl, hc 6 _ rfl⟩
theorem At.last {w : World} {S : Nat → Prop} {o : Ob} {b k : Nat} {p : Value} (h : At w S o b k p) : w.cell? ⟨b, k + 6, none⟩ = some p := by
 obtain ⟨_, _, _, _, _, _, _, _, _, _, _, _, _, h6⟩ := h.cells; exact h6
theorem Pair.parts {w : World} {S : Nat → Prop} {a d : Ob} {p : Value} (h : Pair w S (.cons a d) p) : ∃ b o c pa pd, p = .slice (some ⟨b, o, none⟩) 2 c ∧ 2 ≤ c ∧ At w S a b o pa ∧ At w S d b (o + 7) pd := by
 obtain ⟨b, o, c, pa, pd, h1, h2, h3, h4, h5, h6⟩ := h
 refine ⟨b, o, c, pa, pd, h1, h2, ⟨h3, fun j u hj => h4 j u ?_, h5⟩, ⟨h3, fun j u hj => ?_, h6⟩⟩
 · rw [List.getElem?_append_left (by
    rcases Nat.lt_or_ge j (cellsO a pa).length with hlt | hge
    · exact hlt
    · rw [List.getElem?_eq_none hge] at hj; cases hj)]
   exact hj
 · rw [show o + 7 + j = o + (7 + j) from by omega]
   refine h4 (7 + j) u ?_
   rw [List.getElem?_append_right (by rw [cellsO_length]; omega), cellsO_length, show 7 + j - 7 = j from by omega]
   exact hj
theorem Pair.flat {w : World} {S : Nat → Prop} {o : Ob} {p : Value} (h : Pair w S o p) (ho : o.isCons = false) : p = .slice none 0 0 := by
 cases o with
 | cons a d => simp [Ob.isCons] at ho
 | _ => exact h

theorem BA_inj {l m : List UInt8} (h : BA l = BA m) : l = m := by
 have := congrArg LA h
 rwa [LA_BA, LA_BA] at this
def RetB (w : World) (r : Bool) (e : Ending) (w' : World) : Prop := e = .returned (.bool r) ∧ Below w.heap.size w w'
theorem isIntegerRaw (k : Int) (s1 s2 s3 s4 s5 : ByteArray) (p : Value) (w : World) :
 Calls Tryz.prog 77 #[.agg #[.int .i64 k, .string s1, .string s2, .string s3, .string s4, .string s5, p]] w (RetB w (k == 1 && (s2.toList == [49]))) := by
 cases h1 : (k == 1) with
 | false =>
  go_enter Tryz.func77, Tryz.ntmps77
  go_wp2
  go_ret
  exact ⟨rfl, Below.alloc (Below.refl _ _) (Nat.le_refl _) _⟩
 | true =>
  cases h2 : (s2.toList == [49]) with
  | false =>
   go_enter Tryz.func77, Tryz.ntmps77
   go_wp2
   go_ret
   exact ⟨rfl, Below.alloc (Below.refl _ _) (Nat.le_refl _) _⟩
  | true =>
   go_enter Tryz.func77, Tryz.ntmps77
   go_wp2
   go_ret
   exact ⟨rfl, Below.alloc (Below.refl _ _) (Nat.le_refl _) _⟩

theorem BA_toList (l : List UInt8) : (BA l).toList = l := by rw [Lib.toList_data]; unfold BA; simp
theorem cells_flat (o : Ob) (p : Value) : ∃ (k : Int) (s1 s2 s3 s4 s5 : ByteArray), cellsO o p = [.int .i64 k, .string s1, .string s2, .string s3, .string s4, .string s5, p] ∧
 (k == 2 && (s3.toList == lispB && s4.toList == [110, 105, 108])) = decide (o = .nil) ∧ (k == 1 && (s2.toList == [49])) = (match o with | .num q => decide (q.den = 1) | _ => false) := by
 cases o with
 | num q =>
  refine ⟨1, nt q, dt q, ⟨#[]⟩, ⟨#[]⟩, ⟨#[]⟩, rfl, by simp [Ob.nil], ?_⟩
  simp only [beq_self_eq_true, Bool.true_and]
  have e : (⟨#[49]⟩ : ByteArray) = BA (text 1) := by decide
  by_cases h : q.den = 1
  · rw [decide_eq_true h]; unfold dt; rw [h, BA_toList]; decide
  · rw [decide_eq_false h]
    have := beq_BA (text (q.den : Int)) [49]
    rw [BA_toList [49]] at this
    unfold dt
    rw [this, decide_eq_false]
    intro e
    have e2 := congrArg val e
    rw [val_text, show val [49] = 1 from by decide] at e2
    omega
 | str s => exact ⟨3, ⟨#[]⟩, ⟨#[]⟩, ⟨#[]⟩, ⟨#[]⟩, BA s, rfl, by simp [Ob.nil], rfl⟩
 | sym x y =>
  refine ⟨2, ⟨#[]⟩, ⟨#[]⟩, BA x, BA y, ⟨#[]⟩, rfl, ?_, rfl⟩
  have h1 := beq_BA x lispB
  have h2 := beq_BA y [110, 105, 108]
  rw [BA_toList lispB] at h1
  rw [BA_toList [110, 105, 108]] at h2
  rw [h1, h2, ← Bool.decide_and]
  simp [Ob.nil]
 | cons a d => exact ⟨4, ⟨#[]⟩, ⟨#[]⟩, ⟨#[]⟩, ⟨#[]⟩, ⟨#[]⟩, rfl, by simp [Ob.nil], rfl⟩
def Ob.isInt : Ob → Bool
 | .num q => decide (q.den = 1)
 | _ => false
theorem isIntegerP (o : Ob) (p : Value) (w : World) : Calls Tryz.prog 77 #[vO o p] w (RetB w o.isInt) := by
 obtain ⟨k, s1, s2, s3, s4, s5, e, _, e2⟩ := cells_flat o p
 have e3 : o.isInt = (k == 1 && (s2.toList == [49])) := by rw [e2]; cases o <;> rfl
 unfold vO
 rw [e, e3]
 exact isIntegerRaw k s1 s2 s3 s4 s5 p w
def CntW (w wr : World) (S : Nat → Prop) (x : Ob) (b k : Nat) (m r : Int) : Prop := (∃ p, At w S x b k p) ∧ m + x.nodes = r ∧ w = wr

theorem countO : ∀ (N : Nat) (a : Ob) (b k : Nat) (p : Value) (m : Int) (w : World) (S : Nat → Prop), a.nodes ≤ N → At w S a b k p → 0 ≤ m → m + a.nodes ≤ 3000 →
 Calls Tryz.prog 91 #[.pointer (some ⟨b, k, none⟩), .int .i64 m] w fun e w' => e = .returned (.int .i64 (m + a.nodes)) ∧ w = w' := by
 intro N
 induction N with
 | zero => intro a b k p m w S hN; have := a.nodes_pos; omega
 | succ N IH =>
  intro a b k p m w S hN h hm hmn
  have pos := a.nodes_pos
  have IH' := qh9 IH
  clear IH
  obtain ⟨R, hR⟩ : ∃ R : Int, m + a.nodes = R := ⟨_, rfl⟩
  rw [hR] at hmn ⊢
  have h0 : Hid (CntW w w S a b k m R) := ⟨⟨p, h⟩, hR, rfl⟩
  clear h hR
  go_enter Tryz.func91, Tryz.ntmps91
  go_wp2_with fail
  go_loopg [0, 1] a.nodes (fun n u v wr => ∃ (x : Ob) (b k : Nat) (m : Int), u = .pointer (some ⟨b, k, none⟩) ∧ v = .int .i64 m ∧ 0 ≤ m ∧ x.nodes ≤ n ∧ n ≤ N + 1 ∧ Hid (CntW w wr S x b k m R))
  case atStart => exact ⟨a, b, k, m, rfl, rfl, hm, Nat.le_refl _, hN, h0⟩
  case round =>
   clear h0
   obtain ⟨x, b, k, m, rfl, rfl, hm, hxn, hnN, hE⟩ := hrel
   obtain ⟨⟨p, h⟩, hR, hw⟩ := hE.out
   subst hw
   clear hE
   have posx := x.nodes_pos
   have l6 := h.last
   cases hx : x.isCons with
   | false =>
    obtain rfl := h.2.2.flat hx
    have hx1 : x.nodes = 1 := by cases x <;> first | rfl | simp [Ob.isCons] at hx
    have hR' : m + 1 = R := by omega
    have hmm : m ≤ 3000 := by omega
    have HR := qh9 hR'
    clear hR hR' hx h
    go_wp2
    go_ret
    exact ⟨ret_int HR.out, rfl⟩
   | true =>
    cases x with
    | cons a d =>
     obtain ⟨b', o', c', pa, pd, rfl, hc, hA, hD⟩ := h.2.2.parts
     have hnn : (Ob.cons a d).nodes = 1 + a.nodes + d.nodes := rfl
     have pa1 := a.nodes_pos
     have pd1 := d.nodes_pos
     have call := qh9 (IH'.out a b' o' pa (m + 1) w S (by omega) hA (by omega) (by omega))
     have hE2 : Hid (CntW w w S d b' (o' + 7) (m + 1 + a.nodes) R) := ⟨⟨pd, hD⟩, by omega, rfl⟩
     have hq : 0 ≤ m + 1 + a.nodes := by omega
     have hd : d.nodes < gk := by omega
     have hd2 : d.nodes ≤ N + 1 := by omega
     have hmm : m ≤ 3000 := by omega
     have hm3 : m + 1 ≤ 3001 := by omega
     clear hx h hA hD hR hnn
     go_wp2_with fail
     refine call.out.mono ?_
     rintro e w' ⟨rfl, rfl⟩
     go_wp2_with fail
     go_roundg d.nodes
     case measure => exact hd
     case rel => exact ⟨d, b', o' + 7, m + 1 + a.nodes, rfl, rfl, hq, Nat.le_refl _, hd2, hE2⟩
    | _ => simp [Ob.isCons] at hx
theorem nodesP (a : Ob) (p : Value) (w : World) (S : Nat → Prop) (hS : In S w) (h : Pair w S a p) (hn : a.nodes ≤ 3000) :
 Calls Tryz.prog 69 #[vO a p] w (fun e w' => e = .returned (.int .i64 a.nodes) ∧ Below w.heap.size w w') := by
 obtain ⟨x0, x1, x2, x3, x4, x5, e⟩ := cells7 a p
 have hb : Below w.heap.size w (w.alloc (.cells #[x0, x1, x2, x3, x4, x5, p] 35)) := Below.alloc (Below.refl _ _) (Nat.le_refl _) _
 have hA : At (w.alloc (.cells #[x0, x1, x2, x3, x4, x5, p] 35)) (fun b => S b ∨ b = w.heap.size) a w.heap.size 0 p := by
  refine ⟨⟨.inr rfl, _, _, heap_alloc_new w _⟩, fun j u hj => ?_, (h.below hS hb).more fun _ h => .inl h⟩
  rw [Nat.zero_add, cell_of_row _ _ _ _ _ _ (heap_alloc_new w _), ← hj, e]
  simp
 have call := qh9 (countO a.nodes a w.heap.size 0 p 0 _ _ (Nat.le_refl _) hA (by omega) (by omega))
 unfold vO
 rw [e]
 clear e hA
 go_enter Tryz.func69, Tryz.ntmps69
 go_wp2_with fail
 refine call.out.mono ?_
 rintro e w' ⟨rfl, rfl⟩
 have HB := qh9 hb
 clear hb
 go_wp2
 go_ret
 exact ⟨ret_int (by omega), HB.out⟩
def Ob.cnt : Ob → Nat → Option Nat
 | .cons _ d, n => d.cnt (n + 1)
 | x, n => if x = .nil then some n else none
theorem info_of {P : Program} {t : TypeId} {z : Value} {a b : Nat} (h : (P.info? t).map (fun i => (i.zero, i.size, i.bytes)) = some (some z, a, b)) : ∃ i, P.info? t = some i ∧ i.zero = some z ∧ i.size = a ∧ i.bytes = b := by
 generalize P.info? t = x at h ⊢
 cases x with
 | none => cases h
 | some j =>
  simp only [Option.map_some, Option.some.injEq, Prod.mk.injEq] at h
  exact ⟨j, rfl, h.1, h.2.1, h.2.2⟩
def zeroO : Value := .agg #[.int .i64 0, e0, e0, e0, e0, e0, .slice none 0 0]

def QuietV (w : World) (v : Value) (e : Ending) (w' : World) : Prop := e = .returned v ∧ ∃ n, w' = w.drewN n
theorem sameRaw (b k b' k' : Nat) (w : World) (x y : Int) (s1 s2 s3 s4 s5 t1 t2 t3 t4 t5 : ByteArray)
 (l0 : w.cell? ⟨b, k, none⟩ = some (.int .i64 x)) (l1 : w.cell? ⟨b, k + 1, none⟩ = some (.string s1)) (l2 : w.cell? ⟨b, k + 2, none⟩ = some (.string s2)) (l3 : w.cell? ⟨b, k + 3, none⟩ = some (.string s3)) (l4 : w.cell? ⟨b, k + 4, none⟩ = some (.string s4)) (l5 : w.cell? ⟨b, k + 5, none⟩ = some (.string s5))
 (m0 : w.cell? ⟨b', k', none⟩ = some (.int .i64 y)) (m1 : w.cell? ⟨b', k' + 1, none⟩ = some (.string t1)) (m2 : w.cell? ⟨b', k' + 2, none⟩ = some (.string t2)) (m3 : w.cell? ⟨b', k' + 3, none⟩ = some (.string t3)) (m4 : w.cell? ⟨b', k' + 4, none⟩ = some (.string t4)) (m5 : w.cell? ⟨b', k' + 5, none⟩ = some (.string t5)) :
 Calls Tryz.prog 123 #[.pointer (some ⟨b, k, none⟩), .pointer (some ⟨b', k', none⟩)] w (QuietV w (.bool (x == y && eqS s1 s2 s3 s4 s5 t1 t2 t3 t4 t5))) := by
 cases h0 : (x == y) with
 | false =>
  have hr : (false && eqS s1 s2 s3 s4 s5 t1 t2 t3 t4 t5) = false := rfl
  have hn : (x != y) = true := by rw [bne, h0]; rfl
  rw [hr]
  clear hr
  go_enter Tryz.func123, Tryz.ntmps123
  go_wp2_with fail
  go_quiet (fail)
  go_wp2
  go_ret
  exact ⟨rfl, _, rfl⟩
 | true =>
  cases h1 : (s1.toList == t1.toList) with
  | false =>
   have hr : (true && eqS s1 s2 s3 s4 s5 t1 t2 t3 t4 t5) = false := by unfold eqS; rw [h1]; simp
   rw [hr]
   clear hr
   go_enter Tryz.func123, Tryz.ntmps123
   go_wp2_with fail
   go_quiet (fail)
   go_wp2
   go_ret
   exact ⟨rfl, _, rfl⟩
  | true =>
   cases h2 : (s2.toList == t2.toList) with
   | false =>
    have hr : (true && eqS s1 s2 s3 s4 s5 t1 t2 t3 t4 t5) = false := by unfold eqS; rw [h1, h2]; simp
    rw [hr]
    clear hr
    go_enter Tryz.func123, Tryz.ntmps123
    go_wp2_with fail
    go_quiet (fail)
    go_wp2
    go_ret
    exact ⟨rfl, _, rfl⟩
   | true =>
    cases h3 : (s3.toList == t3.toList) with
    | false =>
     have hr : (true && eqS s1 s2 s3 s4 s5 t1 t2 t3 t4 t5) = false := by unfold eqS; rw [h1, h2, h3]; simp
     rw [hr]
     clear hr
     go_enter Tryz.func123, Tryz.ntmps123
     go_wp2_with fail
     go_quiet (fail)
     go_wp2
     go_ret
     exact ⟨rfl, _, rfl⟩
    | true =>
     cases h4 : (s4.toList == t4.toList) with
     | false =>
      have hr : (true && eqS s1 s2 s3 s4 s5 t1 t2 t3 t4 t5) = false := by unfold eqS; rw [h1, h2, h3, h4]; simp
      rw [hr]
      clear hr
      go_enter Tryz.func123, Tryz.ntmps123
      go_wp2_with fail
      go_quiet (fail)
      go_wp2
      go_ret
      exact ⟨rfl, _, rfl⟩
     | true =>
      cases h5 : (s5.toList == t5.toList) with
      | false =>
       have hr : (true && eqS s1 s2 s3 s4 s5 t1 t2 t3 t4 t5) = false := by unfold eqS; rw [h1, h2, h3, h4, h5]; simp
       rw [hr]
       clear hr
       go_enter Tryz.func123, Tryz.ntmps123
       go_wp2_with fail
       go_quiet (fail)
       go_wp2
       go_ret
       exact ⟨rfl, _, rfl⟩
      | true =>
       have hr : (true && eqS s1 s2 s3 s4 s5 t1 t2 t3 t4 t5) = true := by unfold eqS; rw [h1, h2, h3, h4, h5]; rfl
       rw [hr]
       clear hr
       go_enter Tryz.func123, Tryz.ntmps123
       go_wp2_with fail
       go_quiet (fail)
       go_wp2
       go_ret
       exact ⟨rfl, _, rfl⟩
theorem cmpInt (x y : Int) (w : World) (h : x ≠ y) :
 Calls Tryz.prog 117 #[.int .i64 x, .int .i64 y] w fun e w' => e = .returned (.int .i64 (ordI x y)) ∧ w = w' := by
 rcases Int.lt_trichotomy x y with g | g | g
 · have ho := qh9 (ordI_lt g)
   go_enter Tryz.func117, Tryz.ntmps117
   go_wp2
   go_ret
   exact ⟨ret_int ho.out.symm, rfl⟩
 · exact absurd g h
 · have ho := qh9 (ordI_gt g)
   have g2 : ¬ x < y := by omega
   have e1 : (x == x) = true := by simp
   go_enter Tryz.func117, Tryz.ntmps117
   go_wp2
   go_ret
   exact ⟨ret_int ho.out.symm, rfl⟩

theorem cmpTexts (l l' : List UInt8) (s t : ByteArray) (w : World) (hs : Hid (LA s = body l)) (ht : Hid (LA t = body l')) (h1 : s.size ≤ 1000000000) (h2 : t.size ≤ 1000000000) :
 Calls Tryz.prog 93 #[.string s, .string t] w fun e w' => e = .returned (.int .i64 (ordN (mag l) (mag l'))) ∧ w = w' := by
 by_cases hl : s.size = t.size
 · have hl2 : (((s.size : Int)) == (t.size : Int)) = true := by rw [hl]; simp
   have hl3 : (((s.size : Int)) != (t.size : Int)) = false := by rw [hl]; simp
   have ho : Hid (Lib.compareBytes s.data.toList t.data.toList = ordN (mag l) (mag l')) := by
    show Lib.compareBytes (LA s) (LA t) = _
    rw [hs.out, ht.out]
    exact compare_bodies (by rw [← hs.out, ← ht.out, LA_length, LA_length, hl])
   clear hl
   go_enter Tryz.func93, Tryz.ntmps93
   go_wp2_with fail
   refine (Tryz.strings_Compare s t _).mono ?_
   rintro e w' ⟨rfl, rfl⟩
   rw [ho.out]
   go_wp2
   go_ret
   exact ⟨rfl, rfl⟩
 · have hl2 : (((s.size : Int)) == (t.size : Int)) = false := by rw [beq_eq_false_iff_ne]; omega
   have hl3 : (((s.size : Int)) != (t.size : Int)) = true := by rw [bne_iff_ne]; omega
   have ho : Hid (ordI s.size t.size = ordN (mag l) (mag l')) := by
    show _ = _
    rcases Nat.lt_or_ge s.size t.size with g | g
    · rw [ordI_lt (by omega), ordN_lt (mag_lt_of_len (by rw [← hs.out, ← ht.out, LA_length, LA_length]; exact g))]
    · rw [ordI_gt (by omega), ordN_gt (mag_lt_of_len (by rw [← hs.out, ← ht.out, LA_length, LA_length]; omega))]
   have hne : (s.size : Int) ≠ (t.size : Int) := by omega
   replace hne := qh9 hne
   clear hl
   go_enter Tryz.func93, Tryz.ntmps93
   go_wp2_with fail
   refine (cmpInt _ _ _ hne.out).mono ?_
   rintro e w' ⟨rfl, rfl⟩
   rw [ho.out]
   go_wp2
   go_ret
   exact ⟨rfl, rfl⟩

theorem compare_any (s t : ByteArray) (w : World) (hs : s.size ≤ 400000000) (ht : t.size ≤ 400000000) :
 Calls Tryz.prog 70 #[.string s, .string t] w fun e w' => e = .returned (.int .i64 (ordI (val (LA s)) (val (LA t)))) ∧ w = w' := by
 obtain ⟨x, hx⟩ : ∃ x, BA (body (LA s)) = x := ⟨_, rfl⟩
 obtain ⟨y, hy⟩ : ∃ y, BA (body (LA t)) = y := ⟨_, rfl⟩
 have bx : Hid (LA x = body (LA s)) := by show _ = _; rw [← hx]; rfl
 have bY : Hid (LA y = body (LA t)) := by show _ = _; rw [← hy]; rfl
 have sx : x.size ≤ 1000000000 := by have := body_length (LA s); rw [← LA_length, bx.out]; rw [LA_length] at this; omega
 have sy : y.size ≤ 1000000000 := by have := body_length (LA t); rw [← LA_length, bY.out]; rw [LA_length] at this; omega
 rw [val_eq, val_eq]
 have nx := @neg_mag (LA s)
 have ny := @neg_mag (LA t)
 have Hx := qh9 hx
 have Hy := qh9 hy
 clear hx hy
 cases hb : neg (LA s) <;> cases hb' : neg (LA t) <;> rw [hb] at nx <;> rw [hb'] at ny <;> have Hb := qh9 hb <;> have Hb' := qh9 hb' <;> clear hb hb' <;> (go_enter Tryz.func70, Tryz.ntmps70)
 · rw [ord_ff]
   clear nx ny
   go_wp2_with fail
   refine (split_any s _ (by unfold maxLen; omega)).mono ?_
   rintro e w' ⟨rfl, rfl⟩
   rw [Hx.out, Hb.out]
   go_wp2_with fail
   refine (split_any t _ (by unfold maxLen; omega)).mono ?_
   rintro e w' ⟨rfl, rfl⟩
   rw [Hy.out, Hb'.out]
   go_wp2_with fail
   refine (cmpTexts (LA s) (LA t) x y _ bx bY sx sy).mono ?_
   rintro e w' ⟨rfl, rfl⟩
   go_wp2
   go_ret
   exact ⟨rfl, rfl⟩
 · rw [ord_ft (ny rfl)]
   clear nx ny
   go_wp2_with fail
   refine (split_any s _ (by unfold maxLen; omega)).mono ?_
   rintro e w' ⟨rfl, rfl⟩
   rw [Hx.out, Hb.out]
   go_wp2_with fail
   refine (split_any t _ (by unfold maxLen; omega)).mono ?_
   rintro e w' ⟨rfl, rfl⟩
   rw [Hy.out, Hb'.out]
   go_wp2
   go_ret
   exact ⟨rfl, rfl⟩
 · rw [ord_tf (nx rfl)]
   clear nx ny
   go_wp2_with fail
   refine (split_any s _ (by unfold maxLen; omega)).mono ?_
   rintro e w' ⟨rfl, rfl⟩
   rw [Hx.out, Hb.out]
   go_wp2_with fail
   refine (split_any t _ (by unfold maxLen; omega)).mono ?_
   rintro e w' ⟨rfl, rfl⟩
   rw [Hy.out, Hb'.out]
   go_wp2
   go_ret
   exact ⟨rfl, rfl⟩
 · rw [ord_tt]
   clear nx ny
   go_wp2_with fail
   refine (split_any s _ (by unfold maxLen; omega)).mono ?_
   rintro e w' ⟨rfl, rfl⟩
   rw [Hx.out, Hb.out]
   go_wp2_with fail
   refine (split_any t _ (by unfold maxLen; omega)).mono ?_
   rintro e w' ⟨rfl, rfl⟩
   rw [Hy.out, Hb'.out]
   go_wp2_with fail
   refine (cmpTexts (LA t) (LA s) y x _ bY bx sy sx).mono ?_
   rintro e w' ⟨rfl, rfl⟩
   go_wp2
   go_ret
   exact ⟨rfl, rfl⟩

theorem digits_any (s : ByteArray) (w : World) (hs : s.size ≤ 400000000) :
 Calls Tryz.prog 148 #[.string s] w fun e w' => e = .returned (.int .i64 ((body (LA s)).length : Nat)) ∧ w = w' := by
 obtain ⟨x, hx⟩ : ∃ x, BA (body (LA s)) = x := ⟨_, rfl⟩
 have hl : Hid ((body (LA s)).length = x.size) := by show _ = _; rw [← hx]; rfl
 rw [hl.out]
 have Hx := qh9 hx
 clear hx
 go_enter Tryz.func148, Tryz.ntmps148
 go_wp2_with fail
 refine (split_any s _ (by unfold maxLen; omega)).mono ?_
 rintro e w' ⟨rfl, rfl⟩
 rw [Hx.out]
 go_wp2
 go_ret
 exact ⟨rfl, rfl⟩
def fO : Ob → Int × ByteArray × ByteArray × ByteArray × ByteArray × ByteArray
 | .num q => (1, nt q, dt q, ⟨#[]⟩, ⟨#[]⟩, ⟨#[]⟩)
 | .str s => (3, ⟨#[]⟩, ⟨#[]⟩, ⟨#[]⟩, ⟨#[]⟩, BA s)
 | .sym a n => (2, ⟨#[]⟩, ⟨#[]⟩, BA a, BA n, ⟨#[]⟩)
 | .cons _ _ => (4, ⟨#[]⟩, ⟨#[]⟩, ⟨#[]⟩, ⟨#[]⟩, ⟨#[]⟩)
theorem cellsO_f (o : Ob) (p : Value) : cellsO o p = [.int .i64 (fO o).1, .string (fO o).2.1, .string (fO o).2.2.1, .string (fO o).2.2.2.1, .string (fO o).2.2.2.2.1, .string (fO o).2.2.2.2.2, p] := by
 cases o <;> rfl
theorem dt_beq {x y : Rat} : ((dt x).toList == (dt y).toList) = decide (x.den = y.den) := by
 unfold dt
 rw [beq_BA]
 by_cases h : x.den = y.den
 · rw [h]; simp
 · rw [decide_eq_false h, decide_eq_false]
   intro e
   have := congrArg val e
   rw [val_text, val_text] at this
   exact h (by exact_mod_cast this)
theorem chain2 {B : Nat} {w w1 w2 : World} (h : Below B w w1) (hb : Below w1.heap.size w1 w2) (hB : B ≤ w.heap.size) : Below B w w2 := h.trans (hb.mono (Nat.le_trans hB h.size))




def vQ (q : Rat) : Value := .agg #[.int .i64 1, .string (nt q), .string (dt q), .string ⟨#[]⟩, .string ⟨#[]⟩, .string ⟨#[]⟩, .slice none 0 0]
theorem vQ_eq (q : Rat) : vO (.num q) (.slice none 0 0) = vQ q := rfl
def RetN (w : World) (q : Rat) (e : Ending) (w' : World) : Prop := e = .returned (vQ q) ∧ Below w.heap.size w w'
theorem RetO.num {w w' : World} {S : Nat → Prop} {q : Rat} {e : Ending} (h : RetO w S (.num q) e w') : RetN w q e w' := by
 obtain ⟨p, rfl, hp, hb⟩ := h
 have e : p = .slice none 0 0 := hp
 subst e
 exact ⟨rfl, hb⟩
theorem ratN (s t : ByteArray) (w : World) (hs : s.size ≤ 400000000) (ht : t.size ≤ 400000000) : Calls Tryz.prog 87 #[.string s, .string t] w (RetN w (quo (LA s) (LA t))) :=
 (ratP s t w (fun _ => False) (fun _ h => h.elim) hs ht).mono fun _ _ h => h.num
theorem ratRN (s t : ByteArray) (w : World) (hs : s.size ≤ 300000000) (ht : t.size ≤ 300000000) : Calls Tryz.prog 21 #[.string s, .string t] w (RetN w (quo (LA s) (LA t))) :=
 (ratO s t w (fun _ => False) (fun _ h => h.elim) hs ht).mono fun _ _ h => h.num
theorem i64_small {n : Int} (h : -1000000 ≤ n ∧ n ≤ 1000000) : Hid (I64 n) := by show I64 n; unfold I64; omega
theorem retN {fn : Func} {q : Tmp} {w0 w : World} {tmps : Array Value} {g : Nat} {x : Rat} {t : TypeId} {fr : Nat × Nat} {cs : Array Value}
 (h : fn.results = #[.cell q 35]) (hq : tmps.getD q undef = .pointer (some ⟨g, 0, none⟩)) (hg : w.heap[g]? = some (.cells cs t fr)) (hc : Value.agg cs = vQ x) (hb : Below w0.heap.size w0 w) :
 bodyPost Tryz.prog fn (RetN w0 x) Exit.ret ⟨tmps, []⟩ w := by
 have hs : cs.size = 7 := by unfold vQ at hc; injection hc with hc; rw [hc]; rfl
 exact retO h hq hg hs ⟨by rw [hc], hb⟩
theorem storeN {ops : Array Oper} {rest : List Oper} {o : Oper} {a : Act} {w : World} {Q : Exit → Act → World → Prop} (hgd : o.guard = none) (x y : Operand) (ho : o.op = .store 35 x y)
 (g : Nat) (q : Rat) (hx : a.eval x = .pointer (some ⟨g, 0, none⟩)) (hy : a.eval y = vQ q)
 (t : TypeId) (old : Array Value) (hg : w.heap[g]? = some (.cells old t (0, 0))) (hold : old.size = 7)
 (h : wpList Tryz.prog ops Q rest (a.put o.dst undef) (w.setRow g #[.int .i64 1, .string (nt q), .string (dt q), .string ⟨#[]⟩, .string ⟨#[]⟩, .string ⟨#[]⟩, .slice none 0 0])) : wpList Tryz.prog ops Q (o :: rest) a w :=
 storeO hgd x y ho g _ hx hy t old hg hold (by simp) (by simp [Value.oneCell']) h
theorem setRow7 {w : World} {g : Nat} {old : Array Value} {t : TypeId} (h : w.heap[g]? = some (.cells old t (0, 0))) (hs : old.size = 7) (a0 a1 a2 a3 a4 a5 a6 : Value) :
 ((((((w.setCell ⟨g, 0, none⟩ a0).setCell ⟨g, 1, none⟩ a1).setCell ⟨g, 2, none⟩ a2).setCell ⟨g, 3, none⟩ a3).setCell ⟨g, 4, none⟩ a4).setCell ⟨g, 5, none⟩ a5).setCell ⟨g, 6, none⟩ a6 = w.setRow g #[a0, a1, a2, a3, a4, a5, a6] := by
 obtain ⟨old⟩ := old
 match old, hs with
 | [o0, o1, o2, o3, o4, o5, o6], _ =>
  rw [setCell_eq_setRow _ g 0 _ t _ a0 h]
  have h1 := setRow_heap w g _ (#[o0, o1, o2, o3, o4, o5, o6].setIfInBounds 0 a0) _ _ h
  rw [setCell_eq_setRow _ g 1 _ t _ a1 h1, setRow_setRow]
  have h2 := setRow_heap w g _ ((#[o0, o1, o2, o3, o4, o5, o6].setIfInBounds 0 a0).setIfInBounds 1 a1) _ _ h
  rw [setCell_eq_setRow _ g 2 _ t _ a2 h2, setRow_setRow]
  have h3 := setRow_heap w g _ (((#[o0, o1, o2, o3, o4, o5, o6].setIfInBounds 0 a0).setIfInBounds 1 a1).setIfInBounds 2 a2) _ _ h
  rw [setCell_eq_setRow _ g 3 _ t _ a3 h3, setRow_setRow]
  have h4 := setRow_heap w g _ ((((#[o0, o1, o2, o3, o4, o5, o6].setIfInBounds 0 a0).setIfInBounds 1 a1).setIfInBounds 2 a2).setIfInBounds 3 a3) _ _ h
  rw [setCell_eq_setRow _ g 4 _ t _ a4 h4, setRow_setRow]
  have h5 := setRow_heap w g _ (((((#[o0, o1, o2, o3, o4, o5, o6].setIfInBounds 0 a0).setIfInBounds 1 a1).setIfInBounds 2 a2).setIfInBounds 3 a3).setIfInBounds 4 a4) _ _ h
  rw [setCell_eq_setRow _ g 5 _ t _ a5 h5, setRow_setRow]
  have h6 := setRow_heap w g _ ((((((#[o0, o1, o2, o3, o4, o5, o6].setIfInBounds 0 a0).setIfInBounds 1 a1).setIfInBounds 2 a2).setIfInBounds 3 a3).setIfInBounds 4 a4).setIfInBounds 5 a5) _ _ h
  rw [setCell_eq_setRow _ g 6 _ t _ a6 h6, setRow_setRow]
  rfl
theorem row7 {w : World} {g : Nat} {t : TypeId} {a0 a1 a2 a3 a4 a5 a6 : Value} (h : w.heap[g]? = some (.cells #[a0, a1, a2, a3, a4, a5, a6] t (0, 0))) :
 (w.cell? ⟨g, 0, none⟩ = some a0 ∧ w.cell? ⟨g, 1, none⟩ = some a1 ∧ w.cell? ⟨g, 2, none⟩ = some a2 ∧ w.cell? ⟨g, 3, none⟩ = some a3 ∧ w.cell? ⟨g, 4, none⟩ = some a4 ∧ w.cell? ⟨g, 5, none⟩ = some a5 ∧ w.cell? ⟨g, 6, none⟩ = some a6) ∧
  (∀ j, w.frozen? ⟨g, j, none⟩ = false) := by
 refine ⟨⟨?_, ?_, ?_, ?_, ?_, ?_, ?_⟩, fun j => by simp [World.frozen?, h]⟩
 all_goals (rw [cell_of_row _ _ _ _ _ _ h]; rfl)

theorem asNumP (a : Ob) (p : Value) (w : World) (hp : ∀ q, a = .num q → p = .slice none 0 0) (ht : Tab w) :
 Calls Tryz.prog 86 #[vO a p] w (RetN w a.fix) := by
 have HT := qh9 ht
 clear ht
 have hz : Hid (∀ w, Tab w → Calls Tryz.prog 41 #[.int .i64 0] w (RetN w 0)) := fun w ht =>
  (intP 0 w (fun _ => False) (i64_small (by omega)) ht).mono fun _ _ h => RetO.num h
 by_cases hk : (fO a).1 = 1
 · cases a with
   | num q =>
    obtain rfl := hp q rfl
    rw [vQ_eq]
    show Calls _ _ _ _ (RetN w q)
    unfold vQ
    clear hk hp hz
    go_enter Tryz.func86, Tryz.ntmps86
    go_wp2_with fail
    exact retN rfl rfl (heap_alloc2_new w _ _) rfl (Below.alloc (Below.alloc (Below.refl _ _) (Nat.le_refl _) _) (by simp) _)
   | _ => simp [fO] at hk
 · have hf : a.fix = 0 := by cases a <;> first | rfl | (exact absurd rfl hk)
   rw [hf]
   have e := cellsO_f a p
   unfold vO
   rw [e]
   have hn : ((fO a).1 != 1) = true := by rw [bne_iff_ne]; exact hk
   clear e hf hk hp
   generalize (fO a).1 = k at hn ⊢
   generalize (fO a).2 = y at ⊢
   obtain ⟨s1, s2, s3, s4, s5⟩ := y
   go_enter Tryz.func86, Tryz.ntmps86
   go_wp2_with fail
   have hb0 : Below w.heap.size w ((w.alloc (.cells #[.int .i64 k, .string s1, .string s2, .string s3, .string s4, .string s5, p] 35)).alloc (.cells #[.int .i64 0, .string ⟨#[]⟩, .string ⟨#[]⟩, .string ⟨#[]⟩, .string ⟨#[]⟩, .string ⟨#[]⟩, .slice none 0 0] 35)) := Below.alloc (Below.alloc (Below.refl _ _) (Nat.le_refl _) _) (by simp) _
   have hg0 := heap_alloc2_new w (.cells #[.int .i64 k, .string s1, .string s2, .string s3, .string s4, .string s5, p] 35) (.cells #[.int .i64 0, .string ⟨#[]⟩, .string ⟨#[]⟩, .string ⟨#[]⟩, .string ⟨#[]⟩, .string ⟨#[]⟩, .slice none 0 0] 35)
   refine (hz.out _ (HT.out.below hb0)).mono ?_
   rintro e w1 ⟨rfl, hb1⟩
   have hg1 := qh9 ((hb1.block (w.heap.size + 1) (by simp)).trans hg0)
   have hbw := qh9 (hb0.trans (hb1.mono hb0.size))
   clear hb0 hb1 hg0
   go_wp2_with (refine storeN rfl (.tmp 2) (.tmp 6) rfl (w.heap.size + 1) 0 rfl rfl _ _ hg1.out rfl ?_)
   exact retN (q := 2) (g := w.heap.size + 1) rfl rfl (setRow_heap _ _ _ _ _ _ hg1.out) rfl (below_setRowO hbw.out (by omega) _)
abbrev row (a0 a1 a2 a3 a4 a5 a6 : Value) : Array Value := #[a0, a1, a2, a3, a4, a5, a6]
structure Three (w W : World) (x y : Array Value) : Prop where
 b0 : W.heap[w.heap.size]? = some (.cells x 35 (0, 0))
 b1 : W.heap[w.heap.size + 1]? = some (.cells y 35 (0, 0))
 b2 : ∃ z : Array Value, z.size = 7 ∧ W.heap[w.heap.size + 1 + 1]? = some (.cells z 35 (0, 0))
 bel : Below w.heap.size w W
 size : w.heap.size + 3 ≤ W.heap.size
theorem Three.new (w : World) (x y z : Array Value) (hz : z.size = 7) : Three w (((w.alloc (.cells x 35)).alloc (.cells y 35)).alloc (.cells z 35)) x y := by
 refine ⟨?_, ?_, ⟨z, hz, heap_new_at (by simp)⟩, Below.alloc (Below.alloc (Below.alloc (Below.refl _ _) (Nat.le_refl _) _) (by simp) _) (by simp; omega) _, by simp⟩
 · rw [Below.heap_alloc _ _ _ (by simp; omega)]; exact heap_alloc2_old w _ _
 · rw [Below.heap_alloc _ _ _ (by simp)]; exact heap_alloc2_new w _ _
theorem Three.below {w W W' : World} {x y : Array Value} (h : Three w W x y) (hb : Below W.heap.size W W') : Three w W' x y := by
 have := h.size
 obtain ⟨z, hz, h2⟩ := h.b2
 exact ⟨(hb.block _ (by omega)).trans h.b0, (hb.block _ (by omega)).trans h.b1, ⟨z, hz, (hb.block _ (by omega)).trans h2⟩, h.bel.trans (hb.mono (by omega)), Nat.le_trans h.size hb.size⟩
theorem Three.set {w W : World} {x y : Array Value} (h : Three w W x y) (hx : x.size = 7) (hy : y.size = 7) (a0 a1 a2 a3 a4 a5 a6 b0 b1 b2 b3 b4 b5 b6 : Value) :
 Three w (((((((((((((((W.setCell ⟨w.heap.size, 0, none⟩ a0).setCell ⟨w.heap.size, 1, none⟩ a1).setCell ⟨w.heap.size, 2, none⟩ a2).setCell ⟨w.heap.size, 3, none⟩ a3).setCell ⟨w.heap.size, 4, none⟩ a4).setCell ⟨w.heap.size, 5, none⟩ a5).setCell ⟨w.heap.size, 6, none⟩ a6).setCell
  ⟨w.heap.size + 1, 0, none⟩ b0).setCell ⟨w.heap.size + 1, 1, none⟩ b1).setCell ⟨w.heap.size + 1, 2, none⟩ b2).setCell ⟨w.heap.size + 1, 3, none⟩ b3).setCell ⟨w.heap.size + 1, 4, none⟩ b4).setCell ⟨w.heap.size + 1, 5, none⟩ b5).setCell ⟨w.heap.size + 1, 6, none⟩ b6)) #[a0, a1, a2, a3, a4, a5, a6] #[b0, b1, b2, b3, b4, b5, b6] := by
 rw [setRow7 h.b0 hx]
 have h1 : (W.setRow w.heap.size #[a0, a1, a2, a3, a4, a5, a6]).heap[w.heap.size + 1]? = _ := (setRow_other _ _ _ _ (by omega)).trans h.b1
 rw [setRow7 h1 hy]
 obtain ⟨z, hz, h2⟩ := h.b2
 refine ⟨?_, setRow_heap _ _ _ _ _ _ h1, ⟨z, hz, ?_⟩, below_setRowO (below_setRowO h.bel (Nat.le_refl _) _) (by omega) _, by rw [size_setRow, size_setRow]; exact h.size⟩
 · rw [setRow_other _ _ _ _ (by omega)]; exact setRow_heap _ _ _ _ _ _ h.b0
 · rw [setRow_other _ _ _ _ (by omega), setRow_other _ _ _ _ (by omega)]; exact h2
theorem row7z {w : World} {g : Nat} {t : TypeId} {z : Array Value} (hz : z.size = 7) (h : w.heap[g]? = some (.cells z t (0, 0))) :
 ∃ a0 a1 a2 a3 a4 a5 a6, (w.cell? ⟨g, 0, none⟩ = some a0 ∧ w.cell? ⟨g, 1, none⟩ = some a1 ∧ w.cell? ⟨g, 2, none⟩ = some a2 ∧ w.cell? ⟨g, 3, none⟩ = some a3 ∧ w.cell? ⟨g, 4, none⟩ = some a4 ∧ w.cell? ⟨g, 5, none⟩ = some a5 ∧ w.cell? ⟨g, 6, none⟩ = some a6) ∧
  (∀ j, w.frozen? ⟨g, j, none⟩ = false) := by
 obtain ⟨z⟩ := z
 match z, hz with
 | [a0, a1, a2, a3, a4, a5, a6], _ => exact ⟨a0, a1, a2, a3, a4, a5, a6, row7 h⟩
theorem Three.ret {w W : World} {x y : Array Value} (T : Three w W x y) (q : Rat) {fn : Func} {r : Tmp} {tmps : Array Value} (h : fn.results = #[.cell r 35]) (hr : tmps.getD r undef = .pointer (some ⟨w.heap.size + 1 + 1, 0, none⟩)) :
 bodyPost Tryz.prog fn (RetN w q) Exit.ret ⟨tmps, []⟩ (((((((W.setCell ⟨w.heap.size + 1 + 1, 0, none⟩ (.int .i64 1)).setCell ⟨w.heap.size + 1 + 1, 1, none⟩ (.string (nt q))).setCell ⟨w.heap.size + 1 + 1, 2, none⟩ (.string (dt q))).setCell ⟨w.heap.size + 1 + 1, 3, none⟩ (.string ⟨#[]⟩)).setCell ⟨w.heap.size + 1 + 1, 4, none⟩ (.string ⟨#[]⟩)).setCell ⟨w.heap.size + 1 + 1, 5, none⟩ (.string ⟨#[]⟩)).setCell ⟨w.heap.size + 1 + 1, 6, none⟩ (.slice none 0 0)) := by
 obtain ⟨z, hz, h2⟩ := T.b2
 rw [setRow7 h2 hz]
 exact retN h hr (setRow_heap _ _ _ _ _ _ h2) rfl (below_setRowO T.bel (by omega) _)

theorem productP (d : Nat) (hd : d ≤ 1000) (a a' : Ob) (p p' : Value) (w : World) (S : Nat → Prop) (hp : Pair w S a p) (hp' : Pair w S a' p') (hb : Bd d a.fix) (hb' : Bd d a'.fix) (ht : Tab w) :
 Calls Tryz.prog 90 #[vO a p, vO a' p'] w (RetN w (a.fix * a'.fix)) := by
 have HT := qh9 ht
 have A1 : Hid (∀ wd, Tab wd → Calls Tryz.prog 86 #[vO a p] wd (RetN wd a.fix)) := fun wd h => asNumP a p wd (fun q e => by subst e; exact hp) h
 have A2 : Hid (∀ wd, Tab wd → Calls Tryz.prog 86 #[vO a' p'] wd (RetN wd a'.fix)) := fun wd h => asNumP a' p' wd (fun q e => by subst e; exact hp') h
 clear ht hp hp'
 generalize a.fix = x at A1 hb ⊢
 generalize a'.fix = y at A2 hb' ⊢
 obtain ⟨x0, x1, x2, x3, x4, x5, e⟩ := cells7 a p
 obtain ⟨y0, y1, y2, y3, y4, y5, e'⟩ := cells7 a' p'
 unfold vO at A1 A2
 rw [e] at A1
 rw [e'] at A2
 unfold vO
 rw [e, e']
 clear e e'
 go_enter Tryz.func90, Tryz.ntmps90
 go_wp2_with fail
 have T0 := Three.new w #[x0, x1, x2, x3, x4, x5, p] #[y0, y1, y2, y3, y4, y5, p'] #[.int .i64 0, .string ⟨#[]⟩, .string ⟨#[]⟩, .string ⟨#[]⟩, .string ⟨#[]⟩, .string ⟨#[]⟩, .slice none 0 0] rfl
 generalize ((w.alloc (.cells #[x0, x1, x2, x3, x4, x5, p] 35)).alloc (.cells #[y0, y1, y2, y3, y4, y5, p'] 35)).alloc (.cells #[.int .i64 0, .string ⟨#[]⟩, .string ⟨#[]⟩, .string ⟨#[]⟩, .string ⟨#[]⟩, .string ⟨#[]⟩, .slice none 0 0] 35) = W at T0 ⊢
 go_upto_region 1 with fail
 go_cut [4] (fun s4 wx => s4 = .pointer (some ⟨w.heap.size + 1 + 1, 0, none⟩) ∧ Hid (Three w wx #[.int .i64 1, .string (nt x), .string (dt x), .string ⟨#[]⟩, .string ⟨#[]⟩, .string ⟨#[]⟩, .slice none 0 0] #[.int .i64 1, .string (nt y), .string (dt y), .string ⟨#[]⟩, .string ⟨#[]⟩, .string ⟨#[]⟩, .slice none 0 0]))
 case first =>
  have hB0 : Below W.heap.size W W.drew := (Below.refl _ _).drew
  obtain ⟨⟨c0, c1, c2, c3, c4, c5, c6⟩, f0⟩ := row7 T0.b0
  obtain ⟨⟨d0, d1, d2, d3, d4, d5, d6⟩, f1⟩ := row7 T0.b1
  have HB : Hid (∀ W', Below W.heap.size W W' → Tab W') := fun W' h => HT.out.below (T0.below h).bel
  go_region_with (first
   | (go_at_call_of 86 (Value.agg #[x0, x1, x2, x3, x4, x5, p]); refine (A1.out _ (HB.out _ ‹Below W.heap.size W _›)).mono ?_; rintro e w3 ⟨rfl, hb3⟩; have hB3 := chain2 ‹Below W.heap.size W _› hb3 (Nat.le_refl _); obtain ⟨⟨c0, c1, c2, c3, c4, c5, c6⟩, f0⟩ := row7 (T0.below hB3).b0; obtain ⟨⟨d0, d1, d2, d3, d4, d5, d6⟩, f1⟩ := row7 (T0.below hB3).b1; unfold vQ)
   | (go_at_call_of 86 (Value.agg #[y0, y1, y2, y3, y4, y5, p']); refine (A2.out _ (HB.out _ ‹Below W.heap.size W _›)).mono ?_; rintro e w4 ⟨rfl, hb4⟩; have hB4 := chain2 ‹Below W.heap.size W _› hb4 (Nat.le_refl _); obtain ⟨⟨c0, c1, c2, c3, c4, c5, c6⟩, f0⟩ := row7 (T0.below hB4).b0; obtain ⟨⟨d0, d1, d2, d3, d4, d5, d6⟩, f1⟩ := row7 (T0.below hB4).b1; unfold vQ))
  all_goals (go_wp2_with fail; go_meet; exact ⟨rfl, Three.set (T0.below ‹Below W.heap.size W _›) rfl rfl _ _ _ _ _ _ _ _ _ _ _ _ _ _⟩)
 case rest =>
  obtain ⟨rfl, T⟩ := hcut
  have b1 := bd_nt hb
  have b2 := bd_dt hb
  have b3 := bd_nt hb'
  have b4 := bd_dt hb'
  have hv : Hid (quo (LA (BA (text (val (LA (nt x)) * val (LA (nt y)))))) (LA (BA (text (val (LA (dt x)) * val (LA (dt y)))))) = x * y) := by
   show _ = _
   rw [val_nt, val_dt, val_nt, val_dt, quo_text, q_mul]
  have s1 : (BA (text (val (LA (nt x)) * val (LA (nt y))))).size ≤ 3000 := by
   rw [val_nt, val_nt, BA_size]
   refine Nat.le_trans (text_length (k := d + d) ?_) (by omega)
   rw [Int.natAbs_mul]
   exact lt_pow_mul hb.1 hb'.1
  have s2 : (BA (text (val (LA (dt x)) * val (LA (dt y))))).size ≤ 3000 := by
   rw [val_dt, val_dt, BA_size]
   refine Nat.le_trans (text_length (k := d + d) ?_) (by omega)
   rw [Int.natAbs_mul]
   exact lt_pow_mul hb.2 hb'.2
  have RN : Hid (∀ W, Calls Tryz.prog 87 #[.string (BA (text (val (LA (nt x)) * val (LA (nt y))))), .string (BA (text (val (LA (dt x)) * val (LA (dt y)))))] W (RetN W (x * y))) := fun W => by
   rw [← hv.out]; exact ratN _ _ _ (by omega) (by omega)
  clear hb hb' A1 A2 T0 hv s1 s2
  generalize nt x = nx at b1 T RN
  generalize dt x = dx at b2 T RN
  generalize nt y = ny at b3 T RN
  generalize dt y = dy at b4 T RN
  obtain ⟨⟨_, c1, c2, _, _, _, _⟩, _⟩ := row7 T.out.b0
  obtain ⟨⟨_, d1, d2, _, _, _, _⟩, _⟩ := row7 T.out.b1
  have hB0 : Below wc.heap.size wc wc.drew := (Below.refl _ _).drew
  have n1 : ¬ w.heap.size + 1 + 1 = w.heap.size := by omega
  have n2 : ¬ w.heap.size + 1 + 1 = w.heap.size + 1 := by omega
  go_wp2_with fail
  go_region_held3 (fun W' => W'.cell? ⟨w.heap.size, 1, none⟩ = some (.string nx) ∧ W'.cell? ⟨w.heap.size, 2, none⟩ = some (.string dx) ∧ W'.cell? ⟨w.heap.size + 1, 1, none⟩ = some (.string ny) ∧ W'.cell? ⟨w.heap.size + 1, 2, none⟩ = some (.string dy)) (go_keep)
   (first
    | (go_at_call 89; refine (multiply_any _ _ _ (by omega) (by omega)).mono ?_; rintro e w3 ⟨rfl, hb3⟩; have hB3 := chain2 ‹Below wc.heap.size wc _› hb3 (Nat.le_refl _); obtain ⟨⟨_, c1, c2, _, _, _, _⟩, _⟩ := row7 (T.out.below hB3).b0; obtain ⟨⟨_, d1, d2, _, _, _, _⟩, _⟩ := row7 (T.out.below hB3).b1)
    | (go_at_call 87; refine (RN.out _).mono ?_; rintro e w4 ⟨rfl, hb4⟩; have hB4 := chain2 ‹Below wc.heap.size wc _› hb4 (Nat.le_refl _); obtain ⟨⟨_, c1, c2, _, _, _, _⟩, _⟩ := row7 (T.out.below hB4).b0; obtain ⟨⟨_, d1, d2, _, _, _, _⟩, _⟩ := row7 (T.out.below hB4).b1; obtain ⟨z, hz, hz2⟩ := (T.out.below hB4).b2; obtain ⟨z0, z1, z2, z3, z4, z5, z6, ⟨q0, q1, q2, q3, q4, q5, q6⟩, f2⟩ := row7z hz hz2; clear hz hz2; unfold vQ))
  all_goals go_wp2
  all_goals exact Three.ret (T.out.below ‹Below wc.heap.size wc _›) _ rfl rfl
theorem q_add_same {x y : Rat} (h : x.den = y.den) : Rat.divInt (x.num + y.num) (x.den : Int) = x + y := by
 rw [← q_add, ← h, ← Int.add_mul]
 rw [Rat.divInt_mul_right (by exact_mod_cast x.den_nz)]
theorem sumP (d : Nat) (hd : d ≤ 1000) (a a' : Ob) (p p' : Value) (w : World) (S : Nat → Prop) (hp : Pair w S a p) (hp' : Pair w S a' p') (hb : Bd d a.fix) (hb' : Bd d a'.fix) (ht : Tab w) :
 Calls Tryz.prog 67 #[vO a p, vO a' p'] w (RetN w (a.fix + a'.fix)) := by
 have HT := qh9 ht
 have A1 : Hid (∀ wd, Tab wd → Calls Tryz.prog 86 #[vO a p] wd (RetN wd a.fix)) := fun wd h => asNumP a p wd (fun q e => by subst e; exact hp) h
 have A2 : Hid (∀ wd, Tab wd → Calls Tryz.prog 86 #[vO a' p'] wd (RetN wd a'.fix)) := fun wd h => asNumP a' p' wd (fun q e => by subst e; exact hp') h
 clear ht hp hp'
 generalize a.fix = x at A1 hb ⊢
 generalize a'.fix = y at A2 hb' ⊢
 obtain ⟨x0, x1, x2, x3, x4, x5, e⟩ := cells7 a p
 obtain ⟨y0, y1, y2, y3, y4, y5, e'⟩ := cells7 a' p'
 unfold vO at A1 A2
 rw [e] at A1
 rw [e'] at A2
 unfold vO
 rw [e, e']
 clear e e'
 go_enter Tryz.func67, Tryz.ntmps67
 go_wp2_with fail
 have T0 := Three.new w #[x0, x1, x2, x3, x4, x5, p] #[y0, y1, y2, y3, y4, y5, p'] #[.int .i64 0, .string ⟨#[]⟩, .string ⟨#[]⟩, .string ⟨#[]⟩, .string ⟨#[]⟩, .string ⟨#[]⟩, .slice none 0 0] rfl
 generalize ((w.alloc (.cells #[x0, x1, x2, x3, x4, x5, p] 35)).alloc (.cells #[y0, y1, y2, y3, y4, y5, p'] 35)).alloc (.cells #[.int .i64 0, .string ⟨#[]⟩, .string ⟨#[]⟩, .string ⟨#[]⟩, .string ⟨#[]⟩, .string ⟨#[]⟩, .slice none 0 0] 35) = W at T0 ⊢
 go_upto_region 1 with fail
 go_cut [4] (fun s4 wx => s4 = .pointer (some ⟨w.heap.size + 1 + 1, 0, none⟩) ∧ Hid (Three w wx #[.int .i64 1, .string (nt x), .string (dt x), .string ⟨#[]⟩, .string ⟨#[]⟩, .string ⟨#[]⟩, .slice none 0 0] #[.int .i64 1, .string (nt y), .string (dt y), .string ⟨#[]⟩, .string ⟨#[]⟩, .string ⟨#[]⟩, .slice none 0 0]))
 case first =>
  have hB0 : Below W.heap.size W W.drew := (Below.refl _ _).drew
  obtain ⟨⟨c0, c1, c2, c3, c4, c5, c6⟩, f0⟩ := row7 T0.b0
  obtain ⟨⟨d0, d1, d2, d3, d4, d5, d6⟩, f1⟩ := row7 T0.b1
  have HB : Hid (∀ W', Below W.heap.size W W' → Tab W') := fun W' h => HT.out.below (T0.below h).bel
  go_region_with (first
   | (go_at_call_of 86 (Value.agg #[x0, x1, x2, x3, x4, x5, p]); refine (A1.out _ (HB.out _ ‹Below W.heap.size W _›)).mono ?_; rintro e w3 ⟨rfl, hb3⟩; have hB3 := chain2 ‹Below W.heap.size W _› hb3 (Nat.le_refl _); obtain ⟨⟨c0, c1, c2, c3, c4, c5, c6⟩, f0⟩ := row7 (T0.below hB3).b0; obtain ⟨⟨d0, d1, d2, d3, d4, d5, d6⟩, f1⟩ := row7 (T0.below hB3).b1; unfold vQ)
   | (go_at_call_of 86 (Value.agg #[y0, y1, y2, y3, y4, y5, p']); refine (A2.out _ (HB.out _ ‹Below W.heap.size W _›)).mono ?_; rintro e w4 ⟨rfl, hb4⟩; have hB4 := chain2 ‹Below W.heap.size W _› hb4 (Nat.le_refl _); obtain ⟨⟨c0, c1, c2, c3, c4, c5, c6⟩, f0⟩ := row7 (T0.below hB4).b0; obtain ⟨⟨d0, d1, d2, d3, d4, d5, d6⟩, f1⟩ := row7 (T0.below hB4).b1; unfold vQ))
  all_goals (go_wp2_with fail; go_meet; exact ⟨rfl, Three.set (T0.below ‹Below W.heap.size W _›) rfl rfl _ _ _ _ _ _ _ _ _ _ _ _ _ _⟩)
 case rest =>
  obtain ⟨rfl, T⟩ := hcut
  have b1 := bd_nt hb
  have b2 := bd_dt hb
  have b3 := bd_nt hb'
  have b4 := bd_dt hb'
  have hB0 : Below wc.heap.size wc wc.drew := (Below.refl _ _).drew
  have n1 : ¬ w.heap.size + 1 + 1 = w.heap.size := by omega
  have n2 : ¬ w.heap.size + 1 + 1 = w.heap.size + 1 := by omega
  obtain ⟨⟨_, c1, c2, _, _, _, _⟩, _⟩ := row7 T.out.b0
  obtain ⟨⟨_, d1, d2, _, _, _, _⟩, _⟩ := row7 T.out.b1
  have m1 := lt_pow_mul hb.1 hb'.2
  have m2 := lt_pow_mul hb'.1 hb.2
  have m3 := lt_pow_mul hb.2 hb'.2
  have hp2 : 10 ^ (d + d + 1) = 10 ^ (d + d) * 10 := Nat.pow_succ ..
  cases hd2 : ((dt x).toList == (dt y).toList) with
  | true =>
   have hden := of_decide_eq_true (dt_beq (x := x) (y := y) ▸ hd2)
   have hv : Hid (quo (LA (BA (text (val (LA (nt x)) + val (LA (nt y)))))) (LA (dt x)) = x + y) := by
    show quo _ (LA (BA (text (x.den : Int)))) = _
    rw [val_nt, val_nt, quo_text, q_add_same hden]
   have s1 : (BA (text (val (LA (nt x)) + val (LA (nt y))))).size ≤ 3000 := by
    rw [val_nt, val_nt, BA_size]
    refine Nat.le_trans (text_length (k := d + 1) ?_) (by omega)
    have hp : 10 ^ (d + 1) = 10 ^ d * 10 := Nat.pow_succ ..
    have h1 := hb.1
    have h2 := hb'.1
    have h3 := Int.natAbs_add_le x.num y.num
    omega
   have RN : Hid (∀ W, Calls Tryz.prog 87 #[.string (BA (text (val (LA (nt x)) + val (LA (nt y))))), .string (dt x)] W (RetN W (x + y))) := fun W => by
    rw [← hv.out]; exact ratN _ _ _ (by omega) (by omega)
   clear hb hb' A1 A2 T0 hv s1 m1 m2 m3 hp2 hden
   generalize nt x = nx at *
   generalize dt x = dx at *
   generalize nt y = ny at *
   generalize dt y = dy at *
   go_wp2_with fail
   go_region_held3 (fun W' => W'.cell? ⟨w.heap.size, 1, none⟩ = some (.string nx) ∧ W'.cell? ⟨w.heap.size, 2, none⟩ = some (.string dx) ∧ W'.cell? ⟨w.heap.size + 1, 1, none⟩ = some (.string ny)) (go_keep)
    (first
     | (go_at_call 88; refine (add_any _ _ _ (by omega) (by omega)).mono ?_; rintro e w3 ⟨rfl, hb3⟩; have hB3 := chain2 ‹Below wc.heap.size wc _› hb3 (Nat.le_refl _); obtain ⟨⟨_, c1, c2, _, _, _, _⟩, _⟩ := row7 (T.out.below hB3).b0; obtain ⟨⟨_, d1, d2, _, _, _, _⟩, _⟩ := row7 (T.out.below hB3).b1)
     | (go_at_call 87; refine (RN.out _).mono ?_; rintro e w4 ⟨rfl, hb4⟩; have hB4 := chain2 ‹Below wc.heap.size wc _› hb4 (Nat.le_refl _); obtain ⟨⟨_, c1, c2, _, _, _, _⟩, _⟩ := row7 (T.out.below hB4).b0; obtain ⟨⟨_, d1, d2, _, _, _, _⟩, _⟩ := row7 (T.out.below hB4).b1; obtain ⟨z, hz, hz2⟩ := (T.out.below hB4).b2; obtain ⟨z0, z1, z2, z3, z4, z5, z6, ⟨q0, q1, q2, q3, q4, q5, q6⟩, f2⟩ := row7z hz hz2; clear hz hz2; unfold vQ))
   all_goals go_wp2
   all_goals exact Three.ret (T.out.below ‹Below wc.heap.size wc _›) _ rfl rfl
  | false =>
   have s1 : (BA (text (val (LA (nt x)) * val (LA (dt y))))).size ≤ 3000 := by
    rw [val_nt, val_dt, BA_size]
    refine Nat.le_trans (text_length (k := d + d) ?_) (by omega)
    rw [Int.natAbs_mul]
    exact m1
   have s2 : (BA (text (val (LA (nt y)) * val (LA (dt x))))).size ≤ 3000 := by
    rw [val_nt, val_dt, BA_size]
    refine Nat.le_trans (text_length (k := d + d) ?_) (by omega)
    rw [Int.natAbs_mul]
    exact m2
   have s3 : (BA (text (val (LA (dt x)) * val (LA (dt y))))).size ≤ 3000 := by
    rw [val_dt, val_dt, BA_size]
    refine Nat.le_trans (text_length (k := d + d) ?_) (by omega)
    rw [Int.natAbs_mul]
    exact m3
   have hA : Hid (∀ W, Calls Tryz.prog 88 #[.string (BA (text (val (LA (nt x)) * val (LA (dt y))))), .string (BA (text (val (LA (nt y)) * val (LA (dt x)))))] W (RetS W (x.num * (y.den : Int) + y.num * (x.den : Int)))) := fun W => by
    have h := add_any (BA (text (val (LA (nt x)) * val (LA (dt y))))) (BA (text (val (LA (nt y)) * val (LA (dt x))))) W (by omega) (by omega)
    rw [LA_BA, LA_BA, val_text, val_text, val_nt, val_dt, val_nt, val_dt] at h
    rw [val_nt, val_dt, val_nt, val_dt]
    exact h
   have s4 : (BA (text (x.num * (y.den : Int) + y.num * (x.den : Int)))).size ≤ 3000 := by
    rw [BA_size]
    refine Nat.le_trans (text_length (k := d + d + 1) ?_) (by omega)
    have h3 := Int.natAbs_add_le (x.num * (y.den : Int)) (y.num * (x.den : Int))
    rw [Int.natAbs_mul, Int.natAbs_mul, Int.natAbs_natCast, Int.natAbs_natCast] at h3
    omega
   have RN : Hid (∀ W, Calls Tryz.prog 87 #[.string (BA (text (x.num * (y.den : Int) + y.num * (x.den : Int)))), .string (BA (text (val (LA (dt x)) * val (LA (dt y)))))] W (RetN W (x + y))) := fun W => by
    have h := ratN (BA (text (x.num * (y.den : Int) + y.num * (x.den : Int)))) (BA (text (val (LA (dt x)) * val (LA (dt y))))) W (by omega) (by omega)
    rw [val_dt, val_dt, quo_text, q_add] at h
    rw [val_dt, val_dt]
    exact h
   clear hb hb' A1 A2 T0 m1 m2 m3 hp2 s1 s2 s3 s4
   generalize x.num * (y.den : Int) + y.num * (x.den : Int) = nn at hA RN
   generalize nt x = nx at *
   generalize dt x = dx at *
   generalize nt y = ny at *
   generalize dt y = dy at *
   go_wp2_with fail
   go_region_held3 (fun W' => W'.cell? ⟨w.heap.size, 1, none⟩ = some (.string nx) ∧ W'.cell? ⟨w.heap.size, 2, none⟩ = some (.string dx) ∧ W'.cell? ⟨w.heap.size + 1, 1, none⟩ = some (.string ny) ∧ W'.cell? ⟨w.heap.size + 1, 2, none⟩ = some (.string dy)) (go_keep)
    (first
     | (go_at_call 89; refine (multiply_any _ _ _ (by omega) (by omega)).mono ?_; rintro e w3 ⟨rfl, hb3⟩; have hB3 := chain2 ‹Below wc.heap.size wc _› hb3 (Nat.le_refl _); obtain ⟨⟨_, c1, c2, _, _, _, _⟩, _⟩ := row7 (T.out.below hB3).b0; obtain ⟨⟨_, d1, d2, _, _, _, _⟩, _⟩ := row7 (T.out.below hB3).b1)
     | (go_at_call 88; refine (hA.out _).mono ?_; rintro e w3 ⟨rfl, hb3⟩; have hB3 := chain2 ‹Below wc.heap.size wc _› hb3 (Nat.le_refl _); obtain ⟨⟨_, c1, c2, _, _, _, _⟩, _⟩ := row7 (T.out.below hB3).b0; obtain ⟨⟨_, d1, d2, _, _, _, _⟩, _⟩ := row7 (T.out.below hB3).b1))
   go_wp2_with fail
   refine (multiply_any _ _ _ (by omega) (by omega)).mono ?_
   rintro e w5 ⟨rfl, hb5⟩
   have hB5 := chain2 ‹Below wc.heap.size wc _› hb5 (Nat.le_refl _)
   go_wp2_with fail
   refine (RN.out _).mono ?_
   rintro e w6 ⟨rfl, hb6⟩
   have T6 := qh9 (T.out.below (chain2 hB5 hb6 (Nat.le_refl _)))
   obtain ⟨z, hz, hz2⟩ := T6.out.b2
   have HZ := qh9 hz2
   have HZ1 := qh9 hz
   clear hz hz2
   go_wp2_with (refine storeN rfl (.tmp 4) (.tmp 40) rfl (w.heap.size + 1 + 1) (x + y) rfl rfl _ _ HZ.out HZ1.out ?_)
   exact retN (q := 4) (g := w.heap.size + 1 + 1) rfl rfl (setRow_heap _ _ _ _ _ _ HZ.out) rfl (below_setRowO T6.out.bel (by omega) _)
structure BoxB (w W : World) (x y : Array Value) : Prop where
 b0 : W.heap[w.heap.size]? = some (.cells x 35 (0, 0))
 b1 : W.heap[w.heap.size + 1]? = some (.cells y 35 (0, 0))
 bel : Below w.heap.size w W
 size : w.heap.size + 2 ≤ W.heap.size
theorem BoxB.new (w : World) (x y : Array Value) : BoxB w ((w.alloc (.cells x 35)).alloc (.cells y 35)) x y :=
 ⟨heap_alloc2_old w _ _, heap_alloc2_new w _ _, Below.alloc (Below.alloc (Below.refl _ _) (Nat.le_refl _) _) (by simp) _, by simp⟩
theorem BoxB.below {w W W' : World} {x y : Array Value} (h : BoxB w W x y) (hb : Below W.heap.size W W') : BoxB w W' x y := by
 have := h.size
 exact ⟨(hb.block _ (by omega)).trans h.b0, (hb.block _ (by omega)).trans h.b1, h.bel.trans (hb.mono (by omega)), Nat.le_trans h.size hb.size⟩
theorem isLetterP (c : Int) (h1 : 97 ≤ c) (h2 : c ≤ 122) (w : World) : Calls Tryz.prog 126 #[.int .u8 c] w fun e w' => e = .returned (.bool true) ∧ w = w' := by
 go_enter Tryz.func126, Tryz.ntmps126
 go_wp2
 go_ret
 exact ⟨rfl, rfl⟩
theorem isNameP (s : ByteArray) (h1 : 1 ≤ s.size) (h2 : s.size ≤ 40) (w : World) : Calls Tryz.prog 102 #[.string s] w fun e w' => e = .returned (.bool true) ∧ w = w' := by
 have h3 : (1 : Int) ≤ (s.size : Int) := by omega
 have h4 : (s.size : Int) ≤ 40 := by omega
 go_enter Tryz.func102, Tryz.ntmps102
 go_wp2
 go_ret
 exact ⟨rfl, rfl⟩
theorem isPackageP (w : World) : Calls Tryz.prog 101 #[.string (BA lispB)] w fun e w' => e = .returned (.bool true) ∧ w = w' := by
 show Calls _ _ #[.string ⟨#[108, 105, 115, 112]⟩] _ _
 go_enter Tryz.func101, Tryz.ntmps101
 go_wp2_with fail
 refine (isNameP ⟨#[108, 105, 115, 112]⟩ (by decide) (by decide) _).mono ?_
 rintro e w' ⟨rfl, rfl⟩
 go_wp2_with fail
 refine (isLetterP 108 (by decide) (by decide) _).mono ?_
 rintro e w' ⟨rfl, rfl⟩
 go_wp2_with fail
 go_loop [15] (fun v => ∃ i : Nat, i ≤ 4 ∧ v = .int .i64 i) (fun v => 4 - (intOf v).toNat)
 case atStart => exact ⟨0, by omega, rfl⟩
 case round =>
  obtain ⟨i, hi, rfl⟩ := hrel
  have h5 : i = 0 ∨ i = 1 ∨ i = 2 ∨ i = 3 ∨ i = 4 := by omega
  rcases h5 with rfl | rfl | rfl | rfl | rfl
  · go_wp2_with fail
    refine (isLetterP 108 (by decide) (by decide) _).mono ?_
    rintro e w' ⟨rfl, rfl⟩
    go_wp2
    go_round
    case rel => exact ⟨1, by omega, rfl⟩
    case measure => simp [intOf]
  · go_wp2_with fail
    refine (isLetterP 105 (by decide) (by decide) _).mono ?_
    rintro e w' ⟨rfl, rfl⟩
    go_wp2
    go_round
    case rel => exact ⟨2, by omega, rfl⟩
    case measure => simp [intOf]
  · go_wp2_with fail
    refine (isLetterP 115 (by decide) (by decide) _).mono ?_
    rintro e w' ⟨rfl, rfl⟩
    go_wp2
    go_round
    case rel => exact ⟨3, by omega, rfl⟩
    case measure => simp [intOf]
  · go_wp2_with fail
    refine (isLetterP 112 (by decide) (by decide) _).mono ?_
    rintro e w' ⟨rfl, rfl⟩
    go_wp2
    go_round
    case rel => exact ⟨4, by omega, rfl⟩
    case measure => simp [intOf]
  · go_wp2
    go_ret
    exact ⟨rfl, rfl⟩
theorem isPackageU (w : World) : Calls Tryz.prog 101 #[.string (BA userB)] w fun e w' => e = .returned (.bool true) ∧ w = w' := by
 show Calls _ _ #[.string ⟨#[117, 115, 101, 114]⟩] _ _
 go_enter Tryz.func101, Tryz.ntmps101
 go_wp2_with fail
 refine (isNameP ⟨#[117, 115, 101, 114]⟩ (by decide) (by decide) _).mono ?_
 rintro e w' ⟨rfl, rfl⟩
 go_wp2_with fail
 refine (isLetterP 117 (by decide) (by decide) _).mono ?_
 rintro e w' ⟨rfl, rfl⟩
 go_wp2_with fail
 go_loop [15] (fun v => ∃ i : Nat, i ≤ 4 ∧ v = .int .i64 i) (fun v => 4 - (intOf v).toNat)
 case atStart => exact ⟨0, by omega, rfl⟩
 case round =>
  obtain ⟨i, hi, rfl⟩ := hrel
  have h5 : i = 0 ∨ i = 1 ∨ i = 2 ∨ i = 3 ∨ i = 4 := by omega
  rcases h5 with rfl | rfl | rfl | rfl | rfl
  · go_wp2_with fail
    refine (isLetterP 117 (by decide) (by decide) _).mono ?_
    rintro e w' ⟨rfl, rfl⟩
    go_wp2
    go_round
    case rel => exact ⟨1, by omega, rfl⟩
    case measure => simp [intOf]
  · go_wp2_with fail
    refine (isLetterP 115 (by decide) (by decide) _).mono ?_
    rintro e w' ⟨rfl, rfl⟩
    go_wp2
    go_round
    case rel => exact ⟨2, by omega, rfl⟩
    case measure => simp [intOf]
  · go_wp2_with fail
    refine (isLetterP 101 (by decide) (by decide) _).mono ?_
    rintro e w' ⟨rfl, rfl⟩
    go_wp2
    go_round
    case rel => exact ⟨3, by omega, rfl⟩
    case measure => simp [intOf]
  · go_wp2_with fail
    refine (isLetterP 114 (by decide) (by decide) _).mono ?_
    rintro e w' ⟨rfl, rfl⟩
    go_wp2
    go_round
    case rel => exact ⟨4, by omega, rfl⟩
    case measure => simp [intOf]
  · go_wp2
    go_ret
    exact ⟨rfl, rfl⟩
theorem isShortP (x : Int) (h : x.natAbs < 10 ^ 90) (w : World) : Calls Tryz.prog 124 #[.string (BA (text x))] w fun e w' => e = .returned (.bool true) ∧ w = w' := by
 have hl := text_length (x := x) (k := 90) h
 have hs : (BA (text x)).size ≤ 92 := by rw [BA_size]; exact hl
 have hv : valid (LA (BA (text x))) = true := by rw [LA_BA]; exact valid_text x
 have hd : ((body (LA (BA (text x)))).length : Int) ≤ 100 := by
  unfold body
  rw [hv, LA_BA]
  have := strip_length (text x)
  simp only [if_true]
  omega
 have V : Hid (∀ w, Calls Tryz.prog 115 #[.string (BA (text x))] w fun e w' => e = .returned (.bool true) ∧ w = w') := fun w => by
  have := valid_any (BA (text x)) w (by unfold maxLen; omega)
  rw [hv] at this
  exact this
 have D : Hid (∀ w, Calls Tryz.prog 148 #[.string (BA (text x))] w fun e w' => e = .returned (.int .i64 ((body (LA (BA (text x)))).length : Nat)) ∧ w = w') := fun w => digits_any _ w (by omega)
 clear h hl hv
 generalize BA (text x) = s at hs hd V D ⊢
 generalize (body (LA s)).length = n at hd D
 go_enter Tryz.func124, Tryz.ntmps124
 go_wp2_with fail
 refine (V.out _).mono ?_
 rintro e w' ⟨rfl, rfl⟩
 go_wp2_with fail
 refine (D.out _).mono ?_
 rintro e w' ⟨rfl, rfl⟩
 go_wp2
 go_ret
 exact ⟨rfl, rfl⟩
theorem isFractionP (x : Int) (h : x.natAbs < 10 ^ 90) (w : World) : Calls Tryz.prog 100 #[.string (BA (text x)), .string ⟨#[49]⟩] w fun e w' => e = .returned (.bool true) ∧ w = w' := by
 have C1 := fun w => isShortP x h w
 have C2 : ∀ w, Calls Tryz.prog 124 #[.string ⟨#[49]⟩] w fun e w' => e = .returned (.bool true) ∧ w = w' := fun w => isShortP 1 (by decide) w
 replace C1 := qh9 C1
 replace C2 := qh9 C2
 clear h
 generalize BA (text x) = s at C1 ⊢
 go_enter Tryz.func100, Tryz.ntmps100
 go_wp2_with fail
 refine (C1.out _).mono ?_
 rintro e w' ⟨rfl, rfl⟩
 go_wp2_with fail
 refine (C2.out _).mono ?_
 rintro e w' ⟨rfl, rfl⟩
 go_wp2
 go_ret
 exact ⟨rfl, rfl⟩
theorem val_zero1 : val (LA ⟨#[48]⟩) = 0 := by decide
theorem isFracQ (q : Rat) (h : Bd 90 q) (w : World) : Calls Tryz.prog 100 #[.string (nt q), .string (dt q)] w (RetB w true) := by
 by_cases hd : q.den = 1
 · have e : dt q = ⟨#[49]⟩ := by unfold dt; rw [hd]; decide
   rw [e]
   exact (isFractionP q.num h.1 w).mono fun e w' hh => ⟨hh.1, hh.2 ▸ Below.refl _ _⟩
 · have s1 := bd_nt h
   have s2 := bd_dt h
   have C1 : Hid (∀ w, Calls Tryz.prog 124 #[.string (nt q)] w fun e w' => e = .returned (.bool true) ∧ w = w') := fun w => isShortP q.num h.1 w
   have C2 : Hid (∀ w, Calls Tryz.prog 124 #[.string (dt q)] w fun e w' => e = .returned (.bool true) ∧ w = w') := fun w => isShortP (q.den : Int) (by rw [Int.natAbs_natCast]; exact h.2) w
   have C3 : Hid (∀ w, Calls Tryz.prog 70 #[.string (dt q), .string ⟨#[48]⟩] w fun e w' => e = .returned (.int .i64 1) ∧ w = w') := fun w => by
    have h3 := compare_any (dt q) ⟨#[48]⟩ w (by omega) (by decide)
    rw [val_dt, val_zero1] at h3
    have : ordI (q.den : Int) 0 = 1 := by
     have := q.den_pos
     unfold ordI
     rw [if_neg (by omega), if_pos (by omega)]
    rw [this] at h3
    exact h3
   have C4 : Hid (∀ w, Calls Tryz.prog 125 #[.string (nt q), .string (dt q)] w fun e w' => e = .returned (.string ⟨#[49]⟩) ∧ Below w.heap.size w w') := fun w => by
    have h4 := gcd_any (nt q) (dt q) w (by omega) (by omega)
    rw [← val_natAbs, ← val_natAbs, val_nt, val_dt, Int.natAbs_natCast, q.reduced.gcd_eq_one] at h4
    exact h4
   have hn : ((dt q).toList == [49]) = false := by
    rw [beq_eq_false_iff_ne]
    intro e
    apply hd
    have e2 : LA (dt q) = [49] := by rw [← e, Lib.toList_data]; rfl
    have := val_dt q
    rw [e2] at this
    have h1 : val [49] = 1 := by decide
    omega
   clear h hd s1 s2
   generalize nt q = nq at *
   generalize dt q = dq at *
   go_enter Tryz.func100, Tryz.ntmps100
   go_wp2_with fail
   refine (C1.out _).mono ?_
   rintro e w' ⟨rfl, rfl⟩
   go_wp2_with fail
   refine (C2.out _).mono ?_
   rintro e w' ⟨rfl, rfl⟩
   go_wp2_with fail
   refine (C3.out _).mono ?_
   rintro e w' ⟨rfl, rfl⟩
   go_wp2_with fail
   refine (C4.out _).mono ?_
   rintro e w' ⟨rfl, hb⟩
   have HB := qh9 hb
   clear hb
   go_wp2
   go_ret
   exact ⟨rfl, HB.out⟩
theorem eqS_self (s1 s2 s3 s4 s5 : ByteArray) : eqS s1 s2 s3 s4 s5 s1 s2 s3 s4 s5 = true := by unfold eqS; simp
theorem hasOnlyP (b k : Nat) (w : World) (x : Int) (s1 s2 s3 s4 s5 : ByteArray) (A : Option Addr) (n c : Nat)
 (l0 : w.cell? ⟨b, k, none⟩ = some (.int .i64 x)) (l1 : w.cell? ⟨b, k + 1, none⟩ = some (.string s1)) (l2 : w.cell? ⟨b, k + 2, none⟩ = some (.string s2)) (l3 : w.cell? ⟨b, k + 3, none⟩ = some (.string s3)) (l4 : w.cell? ⟨b, k + 4, none⟩ = some (.string s4)) (l5 : w.cell? ⟨b, k + 5, none⟩ = some (.string s5)) (l6 : w.cell? ⟨b, k + 6, none⟩ = some (.slice A n c)) :
 Calls Tryz.prog 99 #[.pointer (some ⟨b, k, none⟩), .agg #[.int .i64 0, .string s1, .string s2, .string s3, .string s4, .string s5, .slice A n c]] w (RetB w true) := by
 have hlt := World.block_lt_of_cell? w _ l0
 have hne : ¬ b = w.heap.size := by have : b < w.heap.size := hlt; omega
 have hb0 := Below.alloc (Below.refl w.heap.size w) (Nat.le_refl _) (.cells #[.int .i64 x, .string s1, .string s2, .string s3, .string s4, .string s5, .slice A n c] 35)
 have hg0 := heap_alloc_new w (.cells #[.int .i64 x, .string s1, .string s2, .string s3, .string s4, .string s5, .slice A n c] 35)
 go_enter Tryz.func99, Tryz.ntmps99
 go_wp2_with fail
 have k0 := (hb0.cell (p := ⟨b, k, none⟩) hlt).trans l0
 have k1 := (hb0.cell (p := ⟨b, k + 1, none⟩) hlt).trans l1
 have k2 := (hb0.cell (p := ⟨b, k + 2, none⟩) hlt).trans l2
 have k3 := (hb0.cell (p := ⟨b, k + 3, none⟩) hlt).trans l3
 have k4 := (hb0.cell (p := ⟨b, k + 4, none⟩) hlt).trans l4
 have k5 := (hb0.cell (p := ⟨b, k + 5, none⟩) hlt).trans l5
 have k6 := (hb0.cell (p := ⟨b, k + 6, none⟩) hlt).trans l6
 generalize w.alloc (.cells #[.int .i64 x, .string s1, .string s2, .string s3, .string s4, .string s5, .slice A n c] 35) = W at hb0 hg0 k0 k1 k2 k3 k4 k5 k6 ⊢
 obtain ⟨⟨g0, g1, g2, g3, g4, g5, g6⟩, _⟩ := row7 hg0
 have C : Hid (∀ m, Calls Tryz.prog 123 #[.pointer (some ⟨b, k, none⟩), .pointer (some ⟨w.heap.size, 0, none⟩)] (W.drewN m) (QuietV (W.drewN m) (.bool true))) := fun m => by
  have h := sameRaw b k w.heap.size 0 (W.drewN m) x x s1 s2 s3 s4 s5 s1 s2 s3 s4 s5 k0 k1 k2 k3 k4 k5 g0 g1 g2 g3 g4 g5
  rw [eqS_self] at h
  simpa using h
 have HB := qh9 hb0
 clear l0 l1 l2 l3 l4 l5 l6 k0 k1 k2 k3 k4 k5 g0 g1 g2 g3 g4 g5 hg0 hb0
 go_quiet ((go_at_call 123; exact Calls.quiet_of (C.out _)))
 go_wp2
 go_ret
 exact ⟨rfl, HB.out.trans (⟨rfl, rfl, rfl, Nat.le_refl _, fun _ _ => rfl⟩ : Below w.heap.size W (W.drewN nq))⟩

theorem wellP : ∀ (a : Ob) (b k : Nat) (p : Value) (w : World) (S : Nat → Prop), a.bd 90 → In S w → At w S a b k p →
 Calls Tryz.prog 76 #[.pointer (some ⟨b, k, none⟩)] w (RetB w true) := by
 intro a
 induction a with
 | num q =>
  intro b k p w S hwf hS h
  obtain ⟨x0, x1, x2, x3, x4, x5, e, l0, l1, l2, l3, l4, l5, l6⟩ := h.cells
  obtain rfl := h.2.2.flat rfl
  have hlt : b < w.heap.size := hS b h.1.1
  rw [cellsO_f] at e
  simp only [List.cons.injEq, and_true] at e
  obtain ⟨rfl, rfl, rfl, rfl, rfl, rfl⟩ := e
  have hF : Hid (∀ w, Calls Tryz.prog 100 #[.string (nt q), .string (dt q)] w (RetB w true)) := fun w => isFracQ q hwf w
  have HO : Hid (∀ wd, Below w.heap.size w wd → Calls Tryz.prog 99 #[.pointer (some ⟨b, k, none⟩), .agg #[.int .i64 0, .string (nt q), .string (dt q), .string ⟨#[]⟩, .string ⟨#[]⟩, .string ⟨#[]⟩, .slice none 0 0]] wd (RetB wd true)) := fun wd hb =>
   hasOnlyP b k wd 1 (nt q) (dt q) ⟨#[]⟩ ⟨#[]⟩ ⟨#[]⟩ none 0 0 ((hb.cell (p := ⟨b, k, none⟩) hlt).trans l0) ((hb.cell (p := ⟨b, k + 1, none⟩) hlt).trans l1) ((hb.cell (p := ⟨b, k + 2, none⟩) hlt).trans l2) ((hb.cell (p := ⟨b, k + 3, none⟩) hlt).trans l3) ((hb.cell (p := ⟨b, k + 4, none⟩) hlt).trans l4) ((hb.cell (p := ⟨b, k + 5, none⟩) hlt).trans l5) ((hb.cell (p := ⟨b, k + 6, none⟩) hlt).trans l6)
  have HC : Hid (∀ wd, Below w.heap.size w wd → wd.cell? ⟨b, k + 1, none⟩ = some (.string (nt q)) ∧ wd.cell? ⟨b, k + 2, none⟩ = some (.string (dt q))) := fun wd hb => ⟨(hb.cell (p := ⟨b, k + 1, none⟩) hlt).trans l1, (hb.cell (p := ⟨b, k + 2, none⟩) hlt).trans l2⟩
  have hB0 : Below w.heap.size w w.drew := (Below.refl _ _).drew
  change w.cell? ⟨b, k, none⟩ = some (.int .i64 1) at l0
  change w.cell? ⟨b, k + 1, none⟩ = some (.string (nt q)) at l1
  change w.cell? ⟨b, k + 2, none⟩ = some (.string (dt q)) at l2
  clear l3 l4 l5 l6 h hwf
  generalize nt q = nq at *
  generalize dt q = dq at *
  go_enter Tryz.func76, Tryz.ntmps76
  go_wp2_with fail
  go_region_held3 (fun W' => W'.cell? ⟨b, k + 1, none⟩ = some (.string nq) ∧ W'.cell? ⟨b, k + 2, none⟩ = some (.string dq)) (go_keep)
   (first
    | (go_at_call 99; refine (HO.out _ ‹Below w.heap.size w _›).mono ?_; rintro e w3 ⟨rfl, hb3⟩; have hB3 := chain2 ‹Below w.heap.size w _› hb3 (Nat.le_refl _); obtain ⟨l1, l2⟩ := HC.out _ hB3; clear hb3)
    | (go_at_call 100; refine (hF.out _).mono ?_; rintro e w4 ⟨rfl, hb4⟩; have hB4 := chain2 ‹Below w.heap.size w _› hb4 (Nat.le_refl _); obtain ⟨l1, l2⟩ := HC.out _ hB4; clear hb4))
  all_goals go_wp2
  all_goals go_ret
  all_goals exact ⟨rfl, ‹Below w.heap.size w _›⟩
 | str s =>
  intro b k p w S hwf hS h
  obtain ⟨x0, x1, x2, x3, x4, x5, e, l0, l1, l2, l3, l4, l5, l6⟩ := h.cells
  obtain rfl := h.2.2.flat rfl
  have hlt : b < w.heap.size := hS b h.1.1
  rw [cellsO_f] at e
  simp only [List.cons.injEq, and_true] at e
  obtain ⟨rfl, rfl, rfl, rfl, rfl, rfl⟩ := e
  have hsz : ((BA s).size : Int) ≤ 200 := by rw [BA_size]; have : s.length ≤ 200 := hwf; omega
  change w.cell? ⟨b, k, none⟩ = some (.int .i64 3) at l0
  change w.cell? ⟨b, k + 5, none⟩ = some (.string (BA s)) at l5
  have HO := qh9 (hasOnlyP b k w 3 ⟨#[]⟩ ⟨#[]⟩ ⟨#[]⟩ ⟨#[]⟩ (BA s) none 0 0 l0 l1 l2 l3 l4 l5 l6)
  have HC : Hid (∀ wd, Below w.heap.size w wd → wd.cell? ⟨b, k + 5, none⟩ = some (.string (BA s))) := fun wd hb => (hb.cell (p := ⟨b, k + 5, none⟩) hlt).trans l5
  clear l1 l2 l3 l4 l6 h hwf
  generalize BA s = t at *
  go_enter Tryz.func76, Tryz.ntmps76
  go_wp2_with fail
  refine HO.out.mono ?_
  rintro e w1 ⟨rfl, hb1⟩
  have j5 := HC.out _ hb1
  have HB := qh9 hb1
  clear hb1 l5 l0
  go_wp2
  go_ret
  exact ⟨rfl, HB.out⟩
 | sym s n =>
  intro b k p w S hwf hS h
  obtain ⟨x0, x1, x2, x3, x4, x5, e, l0, l1, l2, l3, l4, l5, l6⟩ := h.cells
  obtain rfl := h.2.2.flat rfl
  have hlt : b < w.heap.size := hS b h.1.1
  rw [cellsO_f] at e
  simp only [List.cons.injEq, and_true] at e
  obtain ⟨rfl, rfl, rfl, rfl, rfl, rfl⟩ := e
  obtain ⟨hpk, hn1, hn2⟩ := hwf
  have hN := fun w => isNameP (BA n) (by rw [BA_size]; exact hn1) (by rw [BA_size]; exact hn2) w
  replace hN := qh9 hN
  have hP : Hid (∀ w, Calls Tryz.prog 101 #[.string (BA s)] w fun e w' => e = .returned (.bool true) ∧ w = w') := by
   rcases hpk with rfl | rfl
   · exact isPackageP
   · exact isPackageU
  change w.cell? ⟨b, k, none⟩ = some (.int .i64 2) at l0
  change w.cell? ⟨b, k + 3, none⟩ = some (.string (BA s)) at l3
  change w.cell? ⟨b, k + 4, none⟩ = some (.string (BA n)) at l4
  have HO := qh9 (hasOnlyP b k w 2 ⟨#[]⟩ ⟨#[]⟩ (BA s) (BA n) ⟨#[]⟩ none 0 0 l0 l1 l2 l3 l4 l5 l6)
  have HC : Hid (∀ wd, Below w.heap.size w wd → wd.cell? ⟨b, k + 3, none⟩ = some (.string (BA s)) ∧ wd.cell? ⟨b, k + 4, none⟩ = some (.string (BA n))) := fun wd hb => ⟨(hb.cell (p := ⟨b, k + 3, none⟩) hlt).trans l3, (hb.cell (p := ⟨b, k + 4, none⟩) hlt).trans l4⟩
  clear l1 l2 l5 l6 h hn1 hn2 hpk
  generalize BA s = t at *
  generalize BA n = t' at *
  go_enter Tryz.func76, Tryz.ntmps76
  go_wp2_with fail
  refine HO.out.mono ?_
  rintro e w1 ⟨rfl, hb1⟩
  obtain ⟨j3, j4⟩ := HC.out _ hb1
  have HB := qh9 hb1
  clear hb1 l0 l3 l4
  go_wp2_with fail
  refine (hP.out _).mono ?_
  rintro e w2 ⟨rfl, rfl⟩
  go_wp2_with fail
  refine (hN.out _).mono ?_
  rintro e w2 ⟨rfl, rfl⟩
  go_wp2
  go_ret
  exact ⟨rfl, HB.out⟩
 | cons a d iha ihd =>
  intro b k p w S hwf hS h
  obtain ⟨x0, x1, x2, x3, x4, x5, e, l0, l1, l2, l3, l4, l5, l6⟩ := h.cells
  obtain ⟨b', o', c', pa, pd, rfl, hc, hA, hD⟩ := h.2.2.parts
  have hlt : b < w.heap.size := hS b h.1.1
  rw [cellsO_f] at e
  simp only [List.cons.injEq, and_true] at e
  obtain ⟨rfl, rfl, rfl, rfl, rfl, rfl⟩ := e
  have CA : Hid (∀ wd, Below w.heap.size w wd → Calls Tryz.prog 76 #[.pointer (some ⟨b', o', none⟩)] wd (RetB wd true)) := fun wd hb => iha b' o' pa wd S hwf.1 (hS.later hb.size) (hA.below hS hb)
  have CD : Hid (∀ wd, Below w.heap.size w wd → Calls Tryz.prog 76 #[.pointer (some ⟨b', o' + 7, none⟩)] wd (RetB wd true)) := fun wd hb => ihd b' (o' + 7) pd wd S hwf.2 (hS.later hb.size) (hD.below hS hb)
  change w.cell? ⟨b, k, none⟩ = some (.int .i64 4) at l0
  have HO := qh9 (hasOnlyP b k w 4 ⟨#[]⟩ ⟨#[]⟩ ⟨#[]⟩ ⟨#[]⟩ ⟨#[]⟩ (some ⟨b', o', none⟩) 2 c' l0 l1 l2 l3 l4 l5 l6)
  have HC : Hid (∀ wd, Below w.heap.size w wd → wd.cell? ⟨b, k + 6, none⟩ = some (.slice (some ⟨b', o', none⟩) 2 c')) := fun wd hb => (hb.cell (p := ⟨b, k + 6, none⟩) hlt).trans l6
  clear l1 l2 l3 l4 l5 h hwf iha ihd hA hD
  go_enter Tryz.func76, Tryz.ntmps76
  go_wp2_with fail
  refine HO.out.mono ?_
  rintro e w1 ⟨rfl, hb1⟩
  have j6 := HC.out _ hb1
  have HB := qh9 hb1
  clear hb1 l0 l6
  go_wp2_with fail
  refine (CA.out _ HB.out).mono ?_
  rintro e w2 ⟨rfl, hb2⟩
  have HB2 := qc9 HB hb2
  have j7 := HC.out _ HB2.out
  clear hb2 j6
  go_wp2_with fail
  refine (CD.out _ HB2.out).mono ?_
  rintro e w3 ⟨rfl, hb3⟩
  have HB3 := qc9 HB2 hb3
  clear hb3 j7
  go_wp2
  go_ret
  exact ⟨rfl, HB3.out⟩

theorem validP (a : Ob) (p : Value) (w : World) (S : Nat → Prop) (hwf : a.bd 90) (hn : a.nodes ≤ 3000) (hS : In S w) (h : Pair w S a p) :
 Calls Tryz.prog 52 #[vO a p] w (RetB w true) := by
 obtain ⟨x0, x1, x2, x3, x4, x5, e⟩ := cells7 a p
 have hb : Below w.heap.size w (w.alloc (.cells #[x0, x1, x2, x3, x4, x5, p] 35)) := Below.alloc (Below.refl _ _) (Nat.le_refl _) _
 have hg := heap_alloc_new w (.cells #[x0, x1, x2, x3, x4, x5, p] 35)
 have hA : At (w.alloc (.cells #[x0, x1, x2, x3, x4, x5, p] 35)) (fun b => S b ∨ b = w.heap.size) a w.heap.size 0 p := by
  refine ⟨⟨.inr rfl, _, _, hg⟩, fun j u hj => ?_, (h.below hS hb).more fun _ h => .inl h⟩
  rw [Nat.zero_add, cell_of_row _ _ _ _ _ _ hg, ← hj, e]
  simp
 have hS' : In (fun b => S b ∨ b = w.heap.size) (w.alloc (.cells #[x0, x1, x2, x3, x4, x5, p] 35)) := fun b hb => by
  rcases hb with hb | rfl
  · have := hS b hb; simp; omega
  · simp
 have N := nodesP a p _ S (hS.later hb.size) (h.below hS hb) hn
 unfold vO at N
 rw [e] at N
 replace N := qh9 N
 have V : Hid (∀ wd, Below (w.heap.size + 1) (w.alloc (.cells #[x0, x1, x2, x3, x4, x5, p] 35)) wd → Calls Tryz.prog 76 #[.pointer (some ⟨w.heap.size, 0, none⟩)] wd (RetB wd true)) := fun wd hb' =>
  wellP a w.heap.size 0 p wd _ hwf (hS'.later hb'.size) (hA.below (B := w.heap.size + 1) (fun b hb => by have := hS' b hb; simpa using this) hb')
 unfold vO
 rw [e]
 have hz : (w.alloc (.cells #[x0, x1, x2, x3, x4, x5, p] 35)).heap.size = w.heap.size + 1 := by simp
 have hnn : (a.nodes : Int) ≤ 3000 := by omega
 clear e hA hS' h hS hg hwf
 go_enter Tryz.func52, Tryz.ntmps52
 go_wp2_with fail
 refine N.out.mono ?_
 rintro e w1 ⟨rfl, hb1⟩
 rw [hz] at hb1
 have V1 := qh9 (V.out _ hb1)
 have HB := qh9 (hb.trans (hb1.mono (by omega)))
 clear hb1 hb V N hz
 go_wp2_with fail
 refine V1.out.mono ?_
 rintro e w2 ⟨rfl, hb2⟩
 have HB2 := qh9 (HB.out.trans (hb2.mono HB.out.size))
 clear hb2
 go_wp2
 go_ret
 exact ⟨rfl, HB2.out⟩
theorem fixR (a : Ob) (p : Value) (w : World) (hp : ∀ q, a = .num q → p = .slice none 0 0) (ht : Tab w) :
 Calls Tryz.prog 79 #[vO a p] w (RetN w a.fix) := by
 have HT := qh9 ht
 clear ht
 have hz : Hid (∀ w, Tab w → Calls Tryz.prog 20 #[.int .i64 0] w (RetN w 0)) := fun w ht =>
  (intO 0 w (fun _ => False) (fun _ h => h.elim) (i64_small (by omega)) ht).mono fun _ _ h => RetO.num h
 by_cases hk : (fO a).1 = 1
 · cases a with
   | num q =>
    obtain rfl := hp q rfl
    rw [vQ_eq]
    show Calls _ _ _ _ (RetN w q)
    unfold vQ
    clear hk hp hz
    go_enter Tryz.func79, Tryz.ntmps79
    go_wp2_with fail
    exact retN rfl rfl (heap_alloc2_new w _ _) rfl (Below.alloc (Below.alloc (Below.refl _ _) (Nat.le_refl _) _) (by simp) _)
   | _ => simp [fO] at hk
 · have hf : a.fix = 0 := by cases a <;> first | rfl | (exact absurd rfl hk)
   rw [hf]
   have e := cellsO_f a p
   unfold vO
   rw [e]
   have hn : ((fO a).1 == 1) = false := by rw [beq_eq_false_iff_ne]; exact hk
   clear e hf hk hp
   generalize (fO a).1 = k at hn ⊢
   generalize (fO a).2 = y at ⊢
   obtain ⟨s1, s2, s3, s4, s5⟩ := y
   go_enter Tryz.func79, Tryz.ntmps79
   go_wp2_with fail
   have hb0 : Below w.heap.size w ((w.alloc (.cells #[.int .i64 k, .string s1, .string s2, .string s3, .string s4, .string s5, p] 35)).alloc (.cells #[.int .i64 0, .string ⟨#[]⟩, .string ⟨#[]⟩, .string ⟨#[]⟩, .string ⟨#[]⟩, .string ⟨#[]⟩, .slice none 0 0] 35)) := Below.alloc (Below.alloc (Below.refl _ _) (Nat.le_refl _) _) (by simp) _
   have hg0 := heap_alloc2_new w (.cells #[.int .i64 k, .string s1, .string s2, .string s3, .string s4, .string s5, p] 35) (.cells #[.int .i64 0, .string ⟨#[]⟩, .string ⟨#[]⟩, .string ⟨#[]⟩, .string ⟨#[]⟩, .string ⟨#[]⟩, .slice none 0 0] 35)
   refine (hz.out _ (HT.out.below hb0)).mono ?_
   rintro e w1 ⟨rfl, hb1⟩
   have hg1 := qh9 ((hb1.block (w.heap.size + 1) (by simp)).trans hg0)
   have hbw := qh9 (hb0.trans (hb1.mono hb0.size))
   clear hb0 hb1 hg0
   go_wp2_with (refine storeN rfl (.tmp 2) (.tmp 7) rfl (w.heap.size + 1) 0 rfl rfl _ _ hg1.out rfl ?_)
   exact retN (q := 2) (g := w.heap.size + 1) rfl rfl (setRow_heap _ _ _ _ _ _ hg1.out) rfl (below_setRowO hbw.out (by omega) _)
theorem isIntegerRawR (k : Int) (s1 s2 s3 s4 s5 : ByteArray) (p : Value) (w : World) :
 Calls Tryz.prog 109 #[.agg #[.int .i64 k, .string s1, .string s2, .string s3, .string s4, .string s5, p]] w (RetB w (k == 1 && (s2.toList == [49]))) := by
 cases h1 : (k == 1) with
 | false =>
  go_enter Tryz.func109, Tryz.ntmps109
  go_wp2
  go_ret
  exact ⟨rfl, Below.alloc (Below.refl _ _) (Nat.le_refl _) _⟩
 | true =>
  cases h2 : (s2.toList == [49]) with
  | false =>
   go_enter Tryz.func109, Tryz.ntmps109
   go_wp2
   go_ret
   exact ⟨rfl, Below.alloc (Below.refl _ _) (Nat.le_refl _) _⟩
  | true =>
   go_enter Tryz.func109, Tryz.ntmps109
   go_wp2
   go_ret
   exact ⟨rfl, Below.alloc (Below.refl _ _) (Nat.le_refl _) _⟩

theorem isIntegerR (o : Ob) (p : Value) (w : World) : Calls Tryz.prog 109 #[vO o p] w (RetB w o.isInt) := by
 obtain ⟨k, s1, s2, s3, s4, s5, e, _, e2⟩ := cells_flat o p
 have e3 : o.isInt = (k == 1 && (s2.toList == [49])) := by rw [e2]; cases o <;> rfl
 unfold vO
 rw [e, e3]
 exact isIntegerRawR k s1 s2 s3 s4 s5 p w
theorem isConsR (a : Ob) (p : Value) (w : World) (S : Nat → Prop) (h : Pair w S a p) : Calls Tryz.prog 64 #[vO a p] w (RetB w a.isCons) := by
 have e := cellsO_f a p
 unfold vO
 rw [e]
 cases hc : a.isCons with
 | true =>
  cases a with
  | cons x y =>
   obtain ⟨b, o, c, pa, pd, rfl, h2, _, _⟩ := h.parts
   show Calls _ _ #[.agg #[.int .i64 4, .string ⟨#[]⟩, .string ⟨#[]⟩, .string ⟨#[]⟩, .string ⟨#[]⟩, .string ⟨#[]⟩, .slice (some ⟨b, o, none⟩) 2 c]] _ _
   clear e hc h
   go_enter Tryz.func64, Tryz.ntmps64
   go_wp2
   go_ret
   exact ⟨rfl, Below.alloc (Below.refl _ _) (Nat.le_refl _) _⟩
  | _ => simp [Ob.isCons] at hc
 | false =>
  have hk : ((fO a).1 == 4) = false := by cases a <;> first | rfl | simp [Ob.isCons] at hc
  clear e hc h
  generalize (fO a).1 = k at hk ⊢
  generalize (fO a).2 = y
  obtain ⟨s1, s2, s3, s4, s5⟩ := y
  go_enter Tryz.func64, Tryz.ntmps64
  go_wp2
  go_ret
  exact ⟨rfl, Below.alloc (Below.refl _ _) (Nat.le_refl _) _⟩
theorem rankR (a : Ob) (p : Value) (w : World) : Calls Tryz.prog 128 #[vO a p] w (RetI w a.rank) := by
 unfold vO
 cases a with
 | num q =>
  show Calls _ _ #[.agg #[.int .i64 1, .string (nt q), .string (dt q), .string ⟨#[]⟩, .string ⟨#[]⟩, .string ⟨#[]⟩, p]] _ _
  go_enter Tryz.func128, Tryz.ntmps128
  go_wp2
  go_ret
  exact ⟨rfl, Below.alloc (Below.refl _ _) (Nat.le_refl _) _⟩
 | str s =>
  show Calls _ _ #[.agg #[.int .i64 3, .string ⟨#[]⟩, .string ⟨#[]⟩, .string ⟨#[]⟩, .string ⟨#[]⟩, .string (BA s), p]] _ _
  go_enter Tryz.func128, Tryz.ntmps128
  go_wp2
  go_ret
  exact ⟨rfl, Below.alloc (Below.refl _ _) (Nat.le_refl _) _⟩
 | sym s n =>
  show Calls _ _ #[.agg #[.int .i64 2, .string ⟨#[]⟩, .string ⟨#[]⟩, .string (BA s), .string (BA n), .string ⟨#[]⟩, p]] _ _
  go_enter Tryz.func128, Tryz.ntmps128
  go_wp2
  go_ret
  exact ⟨rfl, Below.alloc (Below.refl _ _) (Nat.le_refl _) _⟩
 | cons x y =>
  show Calls _ _ #[.agg #[.int .i64 4, .string ⟨#[]⟩, .string ⟨#[]⟩, .string ⟨#[]⟩, .string ⟨#[]⟩, .string ⟨#[]⟩, p]] _ _
  go_enter Tryz.func128, Tryz.ntmps128
  go_wp2
  go_ret
  exact ⟨rfl, Below.alloc (Below.refl _ _) (Nat.le_refl _) _⟩
theorem bytesR (s t : ByteArray) (w : World) : Calls Tryz.prog 130 #[.string s, .string t] w fun e w' => e = .returned (.int .i64 (ordB (LA s) (LA t))) ∧ w = w' := by
 have h1 := less_eq (LA s) (LA t)
 have h2 := less_eq (LA t) (LA s)
 have ha := ordB_anti (LA s) (LA t)
 rcases ordB_range (LA s) (LA t) with hr | hr | hr
 all_goals have hr0 := hr
 · rw [hr] at h1 ⊢
   have h1' : Op.bytesLess s.toList t.toList = true := by rw [Lib.toList_data, Lib.toList_data]; change Op.bytesLess (LA s) (LA t) = true; rw [h1]; rfl
   clear h1 h2 ha hr hr0
   go_enter Tryz.func130, Tryz.ntmps130
   go_wp2
   go_ret
   exact ⟨rfl, rfl⟩
 · rw [hr] at h1 ha ⊢
   rw [ha] at h2
   have h1' : Op.bytesLess s.toList t.toList = false := by rw [Lib.toList_data, Lib.toList_data]; change Op.bytesLess (LA s) (LA t) = false; rw [h1]; rfl
   have h2' : (s.toList == t.toList) = true := by
    rw [Lib.toList_data, Lib.toList_data]
    exact beq_iff_eq.2 ((ordB_zero (LA s) (LA t)).1 hr0)
   clear h1 h2 ha hr hr0
   go_enter Tryz.func130, Tryz.ntmps130
   go_wp2
   go_ret
   exact ⟨rfl, rfl⟩
 · rw [hr] at h1 ha ⊢
   rw [ha] at h2
   have h1' : Op.bytesLess s.toList t.toList = false := by rw [Lib.toList_data, Lib.toList_data]; change Op.bytesLess (LA s) (LA t) = false; rw [h1]; rfl
   have h2' : (s.toList == t.toList) = false := by
    rw [Lib.toList_data, Lib.toList_data, beq_eq_false_iff_ne]
    intro e
    have e0 := (ordB_zero (LA s) (LA t)).2 e
    omega
   clear h1 h2 ha hr hr0
   go_enter Tryz.func130, Tryz.ntmps130
   go_wp2
   go_ret
   exact ⟨rfl, rfl⟩
theorem cmpSymR (s t s' t' : ByteArray) (w : World) : Calls Tryz.prog 131 #[.agg #[.string s, .string t], .agg #[.string s', .string t']] w (RetI w (ordS (LA s) (LA t) (LA s') (LA t'))) := by
 have hb : Below w.heap.size w ((w.alloc (.cells #[.string s, .string t] 32)).alloc (.cells #[.string s', .string t'] 32)) := Below.alloc (Below.alloc (Below.refl _ _) (Nat.le_refl _) _) (by simp) _
 cases hd : (t.toList == t'.toList) with
 | true =>
  have e : LA t = LA t' := by
   have := eq_of_beq hd
   rwa [Lib.toList_data, Lib.toList_data] at this
  have hr : Hid (ordB (LA s) (LA s') = ordS (LA s) (LA t) (LA s') (LA t')) := by
   show _ = _
   unfold ordS next
   rw [if_pos ((ordB_zero _ _).2 e)]
  have hn : (t.toList != t'.toList) = false := by rw [bne, hd]; rfl
  clear e
  go_enter Tryz.func131, Tryz.ntmps131
  go_wp2_with fail
  refine (bytesR s s' _).mono ?_
  rintro e w' ⟨rfl, rfl⟩
  have HB := qh9 hb
  clear hb
  go_wp2
  go_ret
  exact ⟨ret_int hr.out, HB.out⟩
 | false =>
  have e : LA t ≠ LA t' := fun e => by
   have : (t.toList == t'.toList) = true := by rw [Lib.toList_data, Lib.toList_data]; exact beq_iff_eq.2 e
   rw [hd] at this; cases this
  have hr : Hid (ordB (LA t) (LA t') = ordS (LA s) (LA t) (LA s') (LA t')) := by
   show _ = _
   unfold ordS next
   rw [if_neg (fun h => e ((ordB_zero _ _).1 h))]
  have hn : (t.toList != t'.toList) = true := by rw [bne, hd]; rfl
  clear e
  go_enter Tryz.func131, Tryz.ntmps131
  go_wp2_with fail
  refine (bytesR t t' _).mono ?_
  rintro e w' ⟨rfl, rfl⟩
  have HB := qh9 hb
  clear hb
  go_wp2
  go_ret
  exact ⟨ret_int hr.out, HB.out⟩
theorem cmpR_ne (a a' : Ob) (p p' : Value) (w : World) (hr : a.rank ≠ a'.rank) :
 Calls Tryz.prog 105 #[vO a p, vO a' p'] w (RetI w (ordO a a')) := by
 obtain ⟨x0, x1, x2, x3, x4, x5, e⟩ := cells7 a p
 obtain ⟨y0, y1, y2, y3, y4, y5, e'⟩ := cells7 a' p'
 have R1 : Hid (∀ wd, Calls Tryz.prog 128 #[.agg #[x0, x1, x2, x3, x4, x5, p]] wd (RetI wd a.rank)) := fun wd => by
  have h := rankR a p wd; unfold vO at h; rw [e] at h; exact h
 have R2 : Hid (∀ wd, Calls Tryz.prog 128 #[.agg #[y0, y1, y2, y3, y4, y5, p']] wd (RetI wd a'.rank)) := fun wd => by
  have h := rankR a' p' wd; unfold vO at h; rw [e'] at h; exact h
 have hn : (a.rank != a'.rank) = true := by rw [bne_iff_ne]; exact hr
 have HR := qh9 hr
 have HO : Hid ((a.rank < a'.rank → ordO a a' = -1) ∧ (¬ a.rank < a'.rank → ordO a a' = 1)) := ⟨fun h => ordO_less h, fun h => ordO_more (by have := HR.out; omega)⟩
 unfold vO
 rw [e, e']
 clear e e' hr HR
 generalize a.rank = ra at *
 generalize a'.rank = rb at *
 go_enter Tryz.func105, Tryz.ntmps105
 go_wp2_with fail
 have T0 := BoxB.new w #[x0, x1, x2, x3, x4, x5, p] #[y0, y1, y2, y3, y4, y5, p']
 generalize (w.alloc (.cells #[x0, x1, x2, x3, x4, x5, p] 35)).alloc (.cells #[y0, y1, y2, y3, y4, y5, p'] 35) = W at T0 ⊢
 have hB0 : Below W.heap.size W W.drew := (Below.refl _ _).drew
 obtain ⟨⟨c0, c1, c2, c3, c4, c5, c6⟩, _⟩ := row7 T0.b0
 obtain ⟨⟨d0, d1, d2, d3, d4, d5, d6⟩, _⟩ := row7 T0.b1
 have HT0 := qh9 T0
 clear T0
 go_region_held3 (fun W' => (W'.cell? ⟨w.heap.size, 0, none⟩ = some x0 ∧ W'.cell? ⟨w.heap.size, 1, none⟩ = some x1 ∧ W'.cell? ⟨w.heap.size, 2, none⟩ = some x2 ∧ W'.cell? ⟨w.heap.size, 3, none⟩ = some x3 ∧ W'.cell? ⟨w.heap.size, 4, none⟩ = some x4 ∧ W'.cell? ⟨w.heap.size, 5, none⟩ = some x5 ∧ W'.cell? ⟨w.heap.size, 6, none⟩ = some p) ∧ (W'.cell? ⟨w.heap.size + 1, 0, none⟩ = some y0 ∧ W'.cell? ⟨w.heap.size + 1, 1, none⟩ = some y1 ∧ W'.cell? ⟨w.heap.size + 1, 2, none⟩ = some y2 ∧ W'.cell? ⟨w.heap.size + 1, 3, none⟩ = some y3 ∧ W'.cell? ⟨w.heap.size + 1, 4, none⟩ = some y4 ∧ W'.cell? ⟨w.heap.size + 1, 5, none⟩ = some y5 ∧ W'.cell? ⟨w.heap.size + 1, 6, none⟩ = some p')) (first | exact ⟨(row7 (HT0.out.below ‹Below W.heap.size W _›).b0).1, (row7 (HT0.out.below ‹Below W.heap.size W _›).b1).1⟩ | go_keep)
  (first
   | (go_at_call_of 128 (Value.agg #[x0, x1, x2, x3, x4, x5, p]); refine (R1.out _).mono ?_; rintro e w3 ⟨rfl, hb3⟩; have hB3 := chain2 ‹Below W.heap.size W _› hb3 (Nat.le_refl _); clear hb3)
   | (go_at_call_of 128 (Value.agg #[y0, y1, y2, y3, y4, y5, p']); refine (R2.out _).mono ?_; rintro e w4 ⟨rfl, hb4⟩; have hB4 := chain2 ‹Below W.heap.size W _› hb4 (Nat.le_refl _); clear hb4))
 have hL := ‹Below W.heap.size W _›
 obtain ⟨⟨k0, k1, k2, k3, k4, k5, k6⟩, _⟩ := row7 (HT0.out.below ‹Below W.heap.size W w4›).b0
 obtain ⟨⟨l0, l1, l2, l3, l4, l5, l6⟩, _⟩ := row7 (HT0.out.below ‹Below W.heap.size W w4›).b1
 have hB5 : Below W.heap.size W w4.drew := (‹Below W.heap.size W w4› : Below W.heap.size W w4).drew
 go_wp2_with fail
 clear hL
 by_cases hlt : ra < rb
 · have ho := qh9 (HO.out.1 (by omega))
   go_region_held3 (fun W' => (W'.cell? ⟨w.heap.size, 0, none⟩ = some x0 ∧ W'.cell? ⟨w.heap.size, 1, none⟩ = some x1 ∧ W'.cell? ⟨w.heap.size, 2, none⟩ = some x2 ∧ W'.cell? ⟨w.heap.size, 3, none⟩ = some x3 ∧ W'.cell? ⟨w.heap.size, 4, none⟩ = some x4 ∧ W'.cell? ⟨w.heap.size, 5, none⟩ = some x5 ∧ W'.cell? ⟨w.heap.size, 6, none⟩ = some p) ∧ (W'.cell? ⟨w.heap.size + 1, 0, none⟩ = some y0 ∧ W'.cell? ⟨w.heap.size + 1, 1, none⟩ = some y1 ∧ W'.cell? ⟨w.heap.size + 1, 2, none⟩ = some y2 ∧ W'.cell? ⟨w.heap.size + 1, 3, none⟩ = some y3 ∧ W'.cell? ⟨w.heap.size + 1, 4, none⟩ = some y4 ∧ W'.cell? ⟨w.heap.size + 1, 5, none⟩ = some y5 ∧ W'.cell? ⟨w.heap.size + 1, 6, none⟩ = some p')) (first | exact ⟨(row7 (HT0.out.below ‹Below W.heap.size W _›).b0).1, (row7 (HT0.out.below ‹Below W.heap.size W _›).b1).1⟩ | go_keep)
    (first
    | (go_at_call_of 128 (Value.agg #[x0, x1, x2, x3, x4, x5, p]); refine (R1.out _).mono ?_; rintro e w3 ⟨rfl, hb3⟩; have hB3 := chain2 ‹Below W.heap.size W _› hb3 (Nat.le_refl _); clear hb3)
    | (go_at_call_of 128 (Value.agg #[y0, y1, y2, y3, y4, y5, p']); refine (R2.out _).mono ?_; rintro e w4 ⟨rfl, hb4⟩; have hB4 := chain2 ‹Below W.heap.size W _› hb4 (Nat.le_refl _); clear hb4))
   go_wp2
   go_ret
   exact ⟨ret_int ho.out.symm, (HT0.out.below ‹Below W.heap.size W _›).bel⟩
 · have ho := qh9 (HO.out.2 (by omega))
   go_region_held3 (fun W' => (W'.cell? ⟨w.heap.size, 0, none⟩ = some x0 ∧ W'.cell? ⟨w.heap.size, 1, none⟩ = some x1 ∧ W'.cell? ⟨w.heap.size, 2, none⟩ = some x2 ∧ W'.cell? ⟨w.heap.size, 3, none⟩ = some x3 ∧ W'.cell? ⟨w.heap.size, 4, none⟩ = some x4 ∧ W'.cell? ⟨w.heap.size, 5, none⟩ = some x5 ∧ W'.cell? ⟨w.heap.size, 6, none⟩ = some p) ∧ (W'.cell? ⟨w.heap.size + 1, 0, none⟩ = some y0 ∧ W'.cell? ⟨w.heap.size + 1, 1, none⟩ = some y1 ∧ W'.cell? ⟨w.heap.size + 1, 2, none⟩ = some y2 ∧ W'.cell? ⟨w.heap.size + 1, 3, none⟩ = some y3 ∧ W'.cell? ⟨w.heap.size + 1, 4, none⟩ = some y4 ∧ W'.cell? ⟨w.heap.size + 1, 5, none⟩ = some y5 ∧ W'.cell? ⟨w.heap.size + 1, 6, none⟩ = some p')) (first | exact ⟨(row7 (HT0.out.below ‹Below W.heap.size W _›).b0).1, (row7 (HT0.out.below ‹Below W.heap.size W _›).b1).1⟩ | go_keep)
    (first
    | (go_at_call_of 128 (Value.agg #[x0, x1, x2, x3, x4, x5, p]); refine (R1.out _).mono ?_; rintro e w3 ⟨rfl, hb3⟩; have hB3 := chain2 ‹Below W.heap.size W _› hb3 (Nat.le_refl _); clear hb3)
    | (go_at_call_of 128 (Value.agg #[y0, y1, y2, y3, y4, y5, p']); refine (R2.out _).mono ?_; rintro e w4 ⟨rfl, hb4⟩; have hB4 := chain2 ‹Below W.heap.size W _› hb4 (Nat.le_refl _); clear hb4))
   go_wp2
   go_ret
   exact ⟨ret_int ho.out.symm, (HT0.out.below ‹Below W.heap.size W _›).bel⟩
end Go.Proofs.YtocbedijpomemaaGreatDoor
