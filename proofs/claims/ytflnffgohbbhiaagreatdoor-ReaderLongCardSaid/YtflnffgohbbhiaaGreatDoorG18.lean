/- Ints as objects: the reference's FromInt and Int. -/
import Derived.Test.YtflnffgohbbhiaaGreatDoorG17
import Derived.Test.YtflnffgohbbhiaaGreatDoorShelf
import Derived.Test.YtflnffgohbbhiaaGreatDoorG11
import Derived.Lib.LaidTab
import Derived.WalkSmall
import Derived.StillTailTactics
import Derived.IntWalk
import Derived.Test.YtflnffgohbbhiaaGreatDoorG13
import Derived.LaidEqlPtr
import Derived.Deep.MidRow
import Derived.Laws.MakeOwn
import Derived.Deep.QuietTactic
import Derived.BigQuiet
import Derived.Deep.RegionHeld3
import Derived.Deep.RegionWith
import Derived.Deep.DeepCutAuto
namespace Go.Proofs.YtflnffgohbbhiaaGreatDoor
open Go Go.RowKit
set_option linter.unusedVariables false

def ObsAt (w : World) (S : Nat → Prop) (b o : Nat) : List Ob → Prop
 | [] => True
 | r :: rs => (∃ p, Pair w S r p ∧ ∀ j u, (cellsO r p)[j]? = some u → w.cell? ⟨b, o + j, none⟩ = some u) ∧ ObsAt w S b (o + 7) rs
theorem ObsAt.get {w : World} {S : Nat → Prop} {b : Nat} : ∀ {l : List Ob} {o i : Nat} (hi : i < l.length), ObsAt w S b o l → ∃ p, Pair w S l[i] p ∧ ∀ j u, (cellsO l[i] p)[j]? = some u → w.cell? ⟨b, o + i * 7 + j, none⟩ = some u
 | r :: rs, o, 0, hi, h => by
  unfold ObsAt at h
  obtain ⟨p, h1, h2⟩ := h.1
  exact ⟨p, h1, fun j u hj => by rw [Nat.zero_mul, Nat.add_zero]; exact h2 j u hj⟩
 | r :: rs, o, i + 1, hi, h => by
  unfold ObsAt at h
  obtain ⟨p, h1, h2⟩ := ObsAt.get (l := rs) (o := o + 7) (i := i) (by simpa using hi) h.2
  exact ⟨p, h1, fun j u hj => by rw [show o + (i + 1) * 7 + j = o + 7 + i * 7 + j from by omega]; exact h2 j u hj⟩
theorem list_drop {l : List Ob} {i : Nat} (hi : i < l.length) : Ob.list (l.drop i) = .cons l[i] (Ob.list (l.drop (i + 1))) := by
 rw [List.drop_eq_getElem_cons hi]; rfl

def ListW (w W wr : World) (S : Nat → Prop) (l : List Ob) (g k : Nat) : Prop :=
 ∃ p t, wr.heap[g]? = some (.cells (cellsO (Ob.list (l.drop k)) p).toArray t (0, 0)) ∧ Pair wr (fun b => S b ∨ (g < b ∧ b < wr.heap.size)) (Ob.list (l.drop k)) p ∧ Below g W wr

set_option maxHeartbeats 4000000 in
set_option maxRecDepth 100000 in
theorem listO (l : List Ob) (A : Option Addr) (c : Nat) (w : World) (S : Nat → Prop) (hS : In S w) (hc : l.length ≤ c) (hl : l.length ≤ 100000)
 (hA : 0 < l.length → ∃ b o, A = some ⟨b, o, none⟩ ∧ S b ∧ ObsAt w S b o l) :
 Calls Tryz.prog 24 #[.slice A l.length c] w (RetO w S (Ob.list l)) := by
 obtain ⟨L, hL⟩ : ∃ L, l.length = L := ⟨_, rfl⟩
 rw [hL] at hc hA hl ⊢
 have HL := Lib.hid hL
 have HA := Lib.hid hA
 clear hL hA
 go_enter Tryz.func24, Tryz.ntmps24
 go_wp2_with fail
 have hb0 : Below w.heap.size w (w.alloc (Obj.cells #[Value.int IntKind.i64 0, Value.string { data := #[] }, Value.string { data := #[] }, Value.string { data := #[] }, Value.string { data := #[] }, Value.string { data := #[] }, Value.slice none 0 0] 47)) := Below.alloc (Below.refl _ _) (Nat.le_refl _) _
 have hg0 := heap_alloc_new w (Obj.cells #[Value.int IntKind.i64 0, Value.string { data := #[] }, Value.string { data := #[] }, Value.string { data := #[] }, Value.string { data := #[] }, Value.string { data := #[] }, Value.slice none 0 0] 47)
 refine (nilO _ (fun _ => False)).mono ?_
 rintro e w1 ⟨p, rfl, hp, hb1⟩
 have h12 := hb1.size
 simp only [World.size_alloc] at h12
 have hg1 := Lib.hid ((hb1.block w.heap.size (by simp)).trans hg0)
 have hbw := hb0.trans (hb1.mono hb0.size)
 clear hg0 hb0 hb1
 have hp' : Pair w1 (fun _ => False) .nil p := hp
 go_wp2_with (refine storeV (w1 := w1) rfl (.tmp 3) (.tmp 5) rfl w1.heap.size .nil p rfl rfl hp _ _ (heap_alloc_new w1 _) rfl ?_)
 have hg := setRow_heap (w1.alloc (Obj.cells #[Value.int IntKind.i64 0, Value.string { data := #[] }, Value.string { data := #[] }, Value.string { data := #[] }, Value.string { data := #[] }, Value.string { data := #[] }, Value.slice none 0 0] 47)) w1.heap.size _ (cellsO .nil p).toArray _ _ (heap_alloc_new w1 _)
 have hbW := below_setRowO (Below.alloc hbw (by omega) (Obj.cells #[Value.int IntKind.i64 0, Value.string { data := #[] }, Value.string { data := #[] }, Value.string { data := #[] }, Value.string { data := #[] }, Value.string { data := #[] }, Value.slice none 0 0] 47)) (g := w1.heap.size) (by omega) (cellsO .nil p).toArray
 have hgW : ((w1.alloc (Obj.cells #[Value.int IntKind.i64 0, Value.string { data := #[] }, Value.string { data := #[] }, Value.string { data := #[] }, Value.string { data := #[] }, Value.string { data := #[] }, Value.slice none 0 0] 47)).setRow w1.heap.size (cellsO .nil p).toArray).heap[w.heap.size]? = some (Obj.cells #[Value.int IntKind.i64 0, Value.string { data := #[] }, Value.string { data := #[] }, Value.string { data := #[] }, Value.string { data := #[] }, Value.string { data := #[] }, Value.slice none 0 0] 47) := by
  rw [setRow_other _ _ _ _ (by omega), Below.heap_alloc _ _ _ (by omega)]
  exact hg1.out
 generalize (w1.alloc (Obj.cells #[Value.int IntKind.i64 0, Value.string { data := #[] }, Value.string { data := #[] }, Value.string { data := #[] }, Value.string { data := #[] }, Value.string { data := #[] }, Value.slice none 0 0] 47)).setRow w1.heap.size (cellsO .nil p).toArray = W at hg hbW hgW ⊢
 have h0 : Hid (ListW w W W S l w1.heap.size L) := ⟨p, _, by rw [List.drop_eq_nil_of_le (by rw [HL.out]; exact Nat.le_refl _)]; exact hg, by rw [List.drop_eq_nil_of_le (by rw [HL.out]; exact Nat.le_refl _)]; exact hp', Below.refl _ _⟩
 have HGW := Lib.hid hgW
 generalize w1.heap.size = g at h12 h0 ⊢
 clear hg hgW hp hp' hg1 hbw
 have h13 : w.heap.size < g := by omega
 go_wp2_with fail
 go_loopw [4] (fun v wr => ∃ k : Nat, k ≤ L ∧ v = .int .i64 ((k : Int) - 1) ∧ Hid (ListW w W wr S l g k)) (fun v _ => (intOf v + 1).toNat)
 case atStart => exact ⟨L, Nat.le_refl _, rfl, h0⟩
 case round =>
  clear h0
  obtain ⟨k, hk, rfl, hE⟩ := hrel
  obtain ⟨wo, rfl⟩ : ∃ wo : World, wo = wr := ⟨_, rfl⟩
  obtain ⟨q, t, hh, hq, hbl⟩ := hE.out
  clear hE
  have hwg : w.heap.size ≤ g := by omega
  have hbwo := hbW.trans (hbl.mono hwg)
  have hgl : g < wo.heap.size := by
   rcases Nat.lt_or_ge g wo.heap.size with h | h
   · exact h
   · rw [Array.getElem?_eq_none h] at hh; cases hh
  obtain ⟨y0, y1, y2, y3, y4, y5, eq⟩ := cells7 (Ob.list (l.drop k)) q
  have m0 : wo.cell? ⟨g, 0, none⟩ = some y0 := by rw [cell_of_row _ _ _ _ _ _ hh, eq]; rfl
  have m1 : wo.cell? ⟨g, 1, none⟩ = some y1 := by rw [cell_of_row _ _ _ _ _ _ hh, eq]; rfl
  have m2 : wo.cell? ⟨g, 2, none⟩ = some y2 := by rw [cell_of_row _ _ _ _ _ _ hh, eq]; rfl
  have m3 : wo.cell? ⟨g, 3, none⟩ = some y3 := by rw [cell_of_row _ _ _ _ _ _ hh, eq]; rfl
  have m4 : wo.cell? ⟨g, 4, none⟩ = some y4 := by rw [cell_of_row _ _ _ _ _ _ hh, eq]; rfl
  have m5 : wo.cell? ⟨g, 5, none⟩ = some y5 := by rw [cell_of_row _ _ _ _ _ _ hh, eq]; rfl
  have m6 : wo.cell? ⟨g, 6, none⟩ = some q := by rw [cell_of_row _ _ _ _ _ _ hh, eq]; rfl
  have HH := Lib.hid hh
  clear hh
  have hIn : In (fun b => S b ∨ (g < b ∧ b < wo.heap.size)) wo := fun b hb => by
   rcases hb with hb | ⟨_, hb⟩
   · have := hS b hb; omega
   · exact hb
  by_cases hk0 : 0 < k
  · obtain ⟨b, o, rfl, hb, hobs⟩ := HA.out (by omega)
    have hkl : k - 1 < l.length := by rw [HL.out]; omega
    obtain ⟨pa, hpa, hcell⟩ := hobs.get hkl
    have hbl0 : b < w.heap.size := hS b hb
    have hpa' := (hpa.below hS hbwo).more (S' := fun b => S b ∨ (g < b ∧ b < wo.heap.size)) fun _ h => .inl h
    have hld := Lib.hid (list_drop hkl)
    have call : ∀ wd, Below wo.heap.size wo wd → Calls Tryz.prog 42 #[vO l[k - 1] pa, vO (Ob.list (l.drop k)) q] wd (RetO wd (fun b => S b ∨ (g < b ∧ b < wo.heap.size)) (.cons l[k - 1] (Ob.list (l.drop k)))) :=
     fun wd hbd => consO _ _ pa q wd _ (hIn.later hbd.size) (hpa'.below hIn hbd) (hq.below hIn hbd)
    obtain ⟨x0, x1, x2, x3, x4, x5, ea⟩ := cells7 l[k - 1] pa
    rw [ea] at hcell
    have l0 := (hbwo.cell (p := ⟨b, o + (k - 1) * 7 + 0, none⟩) hbl0).trans (hcell 0 _ rfl)
    have l1 := (hbwo.cell (p := ⟨b, o + (k - 1) * 7 + 1, none⟩) hbl0).trans (hcell 1 _ rfl)
    have l2 := (hbwo.cell (p := ⟨b, o + (k - 1) * 7 + 2, none⟩) hbl0).trans (hcell 2 _ rfl)
    have l3 := (hbwo.cell (p := ⟨b, o + (k - 1) * 7 + 3, none⟩) hbl0).trans (hcell 3 _ rfl)
    have l4 := (hbwo.cell (p := ⟨b, o + (k - 1) * 7 + 4, none⟩) hbl0).trans (hcell 4 _ rfl)
    have l5 := (hbwo.cell (p := ⟨b, o + (k - 1) * 7 + 5, none⟩) hbl0).trans (hcell 5 _ rfl)
    have l6 := (hbwo.cell (p := ⟨b, o + (k - 1) * 7 + 6, none⟩) hbl0).trans (hcell 6 _ rfl)
    rw [Nat.add_zero] at l0
    unfold vO at call
    rw [ea, eq] at call
    have CALL := Lib.hid call
    have EQ := Lib.hid eq
    clear call hcell hobs hpa hpa' ea eq
    have hp0 : (0 : Int) ≤ (k : Int) - 1 := by omega
    have hp1 : (k : Int) - 1 < L := by omega
    go_wp2_with fail
    go_still_tail 5, (by kernel_rfl)
    change wpList _ _ _ _ _ wo.drew
    have hbd : Below wo.heap.size wo wo.drew := (Below.refl _ _).drew
    generalize wo.drew = wd at hbd ⊢
    clear l0 l1 l2 l3 l4 l5 l6 m0 m1 m2 m3 m4 m5 m6
    go_wp2_with fail
    refine (CALL.out wd hbd).mono ?_
    rintro e w3 ⟨p3, rfl, hp3, hb3⟩
    have h34 := hb3.size
    have h45 := hbd.size
    have hbe := hbd.trans (hb3.mono hbd.size)
    have hh3 := Lib.hid ((hbe.block g hgl).trans HH.out)
    go_wp2_with (refine storeV (w1 := w3) rfl (.tmp 3) (.tmp 18) rfl g _ _ rfl rfl hp3 _ _ hh3.out (by simp [cellsO_length]) ?_)
    go_roundw
    case rel =>
     refine ⟨k - 1, by omega, by congr 1; omega, ⟨p3, t, ?_, ?_, below_setRowO (hbl.trans (hbe.mono (by omega))) (Nat.le_refl _) _⟩⟩
     · rw [hld.out, show k - 1 + 1 = k from by omega]
       exact setRow_heap _ _ _ _ _ _ hh3.out
     · rw [hld.out, show k - 1 + 1 = k from by omega]
       refine (hp3.setRow g (fun h => ?_) _).more (fun b h => ?_)
       · rcases h with (h | ⟨h, _⟩) | ⟨h, _⟩
         · have := hS g h; omega
         · omega
         · omega
       · rw [size_setRow]
         rcases h with (h | ⟨h, h2⟩) | ⟨h, h2⟩
         · exact .inl h
         · exact .inr ⟨h, by omega⟩
         · exact .inr ⟨by omega, h2⟩
    case measure => simp [intOf]; omega
  · have hkz : k = 0 := by omega
    subst hkz
    have hh3 := Lib.hid ((hbl.block w.heap.size (by omega)).trans HGW.out)
    have ev := Lib.hid (show Value.agg #[y0, y1, y2, y3, y4, y5, q] = vO (Ob.list (l.drop 0)) q from by unfold vO; rw [eq])
    have HQ := Lib.hid hq
    have hbx := Lib.hid hbwo
    clear eq hq hbl hbwo
    go_wp2_with (refine storeV (w1 := wo) rfl (.tmp 2) (.tmp 19) rfl w.heap.size _ _ rfl ev.out HQ.out _ _ hh3.out rfl ?_)
    exact retV rfl rfl hh3.out HQ.out (fun h => by
     rcases h with h | ⟨h, _⟩
     · have := hS _ h; omega
     · omega) (fun b hb => by
     rcases hb with hb | ⟨h1, h2⟩
     · exact .inl hb
     · exact .inr ⟨by omega, h2⟩) (Nat.le_refl _) hbx.out
theorem textP (s : ByteArray) (w : World) (S : Nat → Prop) : Calls Tryz.prog 86 #[.string s] w (RetO w S (.str (LA s))) := by
 obtain ⟨s, rfl⟩ : ∃ l, s = BA l := ⟨LA s, (BA_LA s).symm⟩
 go_enter Tryz.func86, Tryz.ntmps86
 go_wp2_with fail
 refine retO rfl rfl (heap_alloc_new w _) rfl ⟨.slice none 0 0, ?_, rfl, ?_⟩
 · rfl
 · exact Below.alloc (Below.refl _ _) (Nat.le_refl _) _
theorem symP (p n : ByteArray) (w : World) (S : Nat → Prop) : Calls Tryz.prog 87 #[.agg #[.string p, .string n]] w (RetO w S (.sym (LA p) (LA n))) := by
 obtain ⟨p, rfl⟩ : ∃ l, p = BA l := ⟨LA p, (BA_LA p).symm⟩
 obtain ⟨n, rfl⟩ : ∃ l, n = BA l := ⟨LA n, (BA_LA n).symm⟩
 go_enter Tryz.func87, Tryz.ntmps87
 go_wp2_with fail
 refine retO rfl rfl (heap_alloc2_new w _ _) rfl ⟨.slice none 0 0, ?_, rfl, ?_⟩
 · rfl
 · exact Below.alloc (Below.alloc (Below.refl _ _) (Nat.le_refl _) _) (by simp) _
theorem consRawP (a0 a1 a2 a3 a4 a5 a6 b0 b1 b2 b3 b4 b5 b6 : Value) (w : World) :
 Calls Tryz.prog 109 #[.agg #[a0, a1, a2, a3, a4, a5, a6], .agg #[b0, b1, b2, b3, b4, b5, b6]] w fun e w' =>
  ∃ g, e = .returned (.agg #[.int .i64 4, e0, e0, e0, e0, e0, .slice (some ⟨g, 0, none⟩) 2 2]) ∧ w.heap.size ≤ g ∧ g < w'.heap.size ∧
   w'.heap[g]? = some (.cells #[a0, a1, a2, a3, a4, a5, a6, b0, b1, b2, b3, b4, b5, b6] 47 (0, 0)) ∧ Below w.heap.size w w' := by
 go_enter Tryz.func109, Tryz.ntmps109
 go_wp2_with fail
 refine retO rfl rfl (g := w.heap.size + 1 + 1) (t := 47) (fr := (0, 0)) ?_ rfl ⟨w.heap.size + 1 + 1 + 1, rfl, by omega, ?_, ?_, ?_⟩
 · rw [Below.heap_alloc _ _ _ (by simp)]
   exact heap_new_at (by simp)
 · simp
 · exact heap_new_at (by simp)
 · exact Below.alloc (Below.alloc (Below.alloc (Below.alloc (Below.refl _ _) (Nat.le_refl _) _) (by simp) _) (by simp; omega) _) (by simp; omega) _
theorem consP (a d : Ob) (pa pd : Value) (w : World) (S : Nat → Prop) (hS : In S w) (ha : Pair w S a pa) (hd : Pair w S d pd) :
 Calls Tryz.prog 109 #[vO a pa, vO d pd] w (RetO w S (.cons a d)) := by
 obtain ⟨a0, a1, a2, a3, a4, a5, ea⟩ := cells7 a pa
 obtain ⟨b0, b1, b2, b3, b4, b5, eb⟩ := cells7 d pd
 unfold vO
 rw [ea, eb]
 refine (consRawP a0 a1 a2 a3 a4 a5 pa b0 b1 b2 b3 b4 b5 pd w).mono ?_
 rintro e w' ⟨g, rfl, hg0, hg, hh, hb⟩
 refine ⟨.slice (some ⟨g, 0, none⟩) 2 2, rfl, ⟨g, 0, 2, pa, pd, rfl, Nat.le_refl _, ⟨.inr ⟨hg0, hg⟩, _, _, hh⟩, ?_, (ha.below hS hb).more fun _ h => .inl h, (hd.below hS hb).more fun _ h => .inl h⟩, hb⟩
 intro j u hj
 rw [ea, eb] at hj
 rw [Nat.zero_add, cell_of_row w' g j _ _ _ hh, ← hj]
 simp
theorem ratP (s t : ByteArray) (w : World) (S : Nat → Prop) (hS : In S w) (hs : s.size ≤ 400000000) (ht : t.size ≤ 400000000) :
 Calls Tryz.prog 84 #[.string s, .string t] w (RetO w S (.num (quo (LA s) (LA t)))) := by
 go_enter Tryz.func84, Tryz.ntmps84
 go_wp2_with fail
 refine (reduce_q s t _ hs ht).mono ?_
 rintro e w1 ⟨rfl, hb1⟩
 have hg := Lib.hid ((hb1.block w.heap.size (by simp)).trans (heap_alloc_new w _))
 go_wp2_with (refine storeV (w1 := w1) (S := fun _ => False) rfl (.tmp 4) (.tmp 13) rfl w.heap.size (.num (quo (LA s) (LA t))) (.slice none 0 0) rfl rfl rfl _ _ hg.out rfl ?_)
 exact retV (S' := fun _ => False) rfl rfl hg.out rfl (fun h => h) (fun _ h => h.elim) (Nat.le_refl _) ((Below.alloc (Below.refl _ _) (Nat.le_refl _) _).trans (hb1.mono (by simp)))
theorem nilP (w : World) (S : Nat → Prop) : Calls Tryz.prog 108 #[] w (RetO w S .nil) := by
 go_enter Tryz.func108, Tryz.ntmps108
 go_wp2_with fail
 refine (symP _ _ _ (fun _ => False)).mono ?_
 rintro e w2 ⟨p, rfl, hp, hb2⟩
 have h12 := hb2.size
 simp only [World.size_alloc] at h12
 have hg := Lib.hid ((hb2.block w.heap.size (by simp)).trans (heap_alloc_new w _))
 go_wp2_with (refine storeV (w1 := w2) rfl (.tmp 0) (.tmp 2) rfl w.heap.size _ _ rfl rfl hp _ _ hg.out rfl ?_)
 exact retV (o := .nil) rfl rfl hg.out hp (fun h => by
  rcases h with h | ⟨h, _⟩
  · exact h
  · simp at h; omega) (fun b hb => by
  rcases hb with hb | ⟨h1, h2⟩
  · exact hb.elim
  · exact .inr ⟨by simp at h1; omega, h2⟩) (Nat.le_refl _) ((Below.alloc (Below.refl _ _) (Nat.le_refl _) _).trans (hb2.mono (by simp)))
set_option maxHeartbeats 4000000 in
set_option maxRecDepth 100000 in
theorem listP (l : List Ob) (A : Option Addr) (c : Nat) (w : World) (S : Nat → Prop) (hS : In S w) (hc : l.length ≤ c) (hl : l.length ≤ 100000)
 (hA : 0 < l.length → ∃ b o, A = some ⟨b, o, none⟩ ∧ S b ∧ ObsAt w S b o l) :
 Calls Tryz.prog 88 #[.slice A l.length c] w (RetO w S (Ob.list l)) := by
 obtain ⟨L, hL⟩ : ∃ L, l.length = L := ⟨_, rfl⟩
 rw [hL] at hc hA hl ⊢
 have HL := Lib.hid hL
 have HA := Lib.hid hA
 clear hL hA
 go_enter Tryz.func88, Tryz.ntmps88
 go_wp2_with fail
 have hb0 : Below w.heap.size w (w.alloc (Obj.cells #[Value.int IntKind.i64 0, Value.string { data := #[] }, Value.string { data := #[] }, Value.string { data := #[] }, Value.string { data := #[] }, Value.string { data := #[] }, Value.slice none 0 0] 47)) := Below.alloc (Below.refl _ _) (Nat.le_refl _) _
 have hg0 := heap_alloc_new w (Obj.cells #[Value.int IntKind.i64 0, Value.string { data := #[] }, Value.string { data := #[] }, Value.string { data := #[] }, Value.string { data := #[] }, Value.string { data := #[] }, Value.slice none 0 0] 47)
 refine (nilP _ (fun _ => False)).mono ?_
 rintro e w1 ⟨p, rfl, hp, hb1⟩
 have h12 := hb1.size
 simp only [World.size_alloc] at h12
 have hg1 := Lib.hid ((hb1.block w.heap.size (by simp)).trans hg0)
 have hbw := hb0.trans (hb1.mono hb0.size)
 clear hg0 hb0 hb1
 have hp' : Pair w1 (fun _ => False) .nil p := hp
 go_wp2_with (refine storeV (w1 := w1) rfl (.tmp 3) (.tmp 5) rfl w1.heap.size .nil p rfl rfl hp _ _ (heap_alloc_new w1 _) rfl ?_)
 have hg := setRow_heap (w1.alloc (Obj.cells #[Value.int IntKind.i64 0, Value.string { data := #[] }, Value.string { data := #[] }, Value.string { data := #[] }, Value.string { data := #[] }, Value.string { data := #[] }, Value.slice none 0 0] 47)) w1.heap.size _ (cellsO .nil p).toArray _ _ (heap_alloc_new w1 _)
 have hbW := below_setRowO (Below.alloc hbw (by omega) (Obj.cells #[Value.int IntKind.i64 0, Value.string { data := #[] }, Value.string { data := #[] }, Value.string { data := #[] }, Value.string { data := #[] }, Value.string { data := #[] }, Value.slice none 0 0] 47)) (g := w1.heap.size) (by omega) (cellsO .nil p).toArray
 have hgW : ((w1.alloc (Obj.cells #[Value.int IntKind.i64 0, Value.string { data := #[] }, Value.string { data := #[] }, Value.string { data := #[] }, Value.string { data := #[] }, Value.string { data := #[] }, Value.slice none 0 0] 47)).setRow w1.heap.size (cellsO .nil p).toArray).heap[w.heap.size]? = some (Obj.cells #[Value.int IntKind.i64 0, Value.string { data := #[] }, Value.string { data := #[] }, Value.string { data := #[] }, Value.string { data := #[] }, Value.string { data := #[] }, Value.slice none 0 0] 47) := by
  rw [setRow_other _ _ _ _ (by omega), Below.heap_alloc _ _ _ (by omega)]
  exact hg1.out
 generalize (w1.alloc (Obj.cells #[Value.int IntKind.i64 0, Value.string { data := #[] }, Value.string { data := #[] }, Value.string { data := #[] }, Value.string { data := #[] }, Value.string { data := #[] }, Value.slice none 0 0] 47)).setRow w1.heap.size (cellsO .nil p).toArray = W at hg hbW hgW ⊢
 have h0 : Hid (ListW w W W S l w1.heap.size L) := ⟨p, _, by rw [List.drop_eq_nil_of_le (by rw [HL.out]; exact Nat.le_refl _)]; exact hg, by rw [List.drop_eq_nil_of_le (by rw [HL.out]; exact Nat.le_refl _)]; exact hp', Below.refl _ _⟩
 have HGW := Lib.hid hgW
 generalize w1.heap.size = g at h12 h0 ⊢
 clear hg hgW hp hp' hg1 hbw
 have h13 : w.heap.size < g := by omega
 go_wp2_with fail
 go_loopw [8] (fun v wr => ∃ i : Nat, i ≤ L ∧ v = .int .i64 (i : Int) ∧ Hid (ListW w W wr S l g (L - i))) (fun v _ => L - (intOf v).toNat)
 case atStart => exact ⟨0, Nat.zero_le _, rfl, h0⟩
 case round =>
  clear h0
  obtain ⟨i, hi, rfl, hE⟩ := hrel
  obtain ⟨k, hkL, hk⟩ : ∃ k, L = i + k ∧ k ≤ L := ⟨L - i, by omega, by omega⟩
  have hki := Lib.hid (show L - i = k from by omega)
  rw [hki.out] at hE
  obtain ⟨wo, rfl⟩ : ∃ wo : World, wo = wr := ⟨_, rfl⟩
  obtain ⟨q, t, hh, hq, hbl⟩ := hE.out
  clear hE
  have hwg : w.heap.size ≤ g := by omega
  have hbwo := hbW.trans (hbl.mono hwg)
  have hgl : g < wo.heap.size := by
   rcases Nat.lt_or_ge g wo.heap.size with h | h
   · exact h
   · rw [Array.getElem?_eq_none h] at hh; cases hh
  obtain ⟨y0, y1, y2, y3, y4, y5, eq⟩ := cells7 (Ob.list (l.drop k)) q
  have m0 : wo.cell? ⟨g, 0, none⟩ = some y0 := by rw [cell_of_row _ _ _ _ _ _ hh, eq]; rfl
  have m1 : wo.cell? ⟨g, 1, none⟩ = some y1 := by rw [cell_of_row _ _ _ _ _ _ hh, eq]; rfl
  have m2 : wo.cell? ⟨g, 2, none⟩ = some y2 := by rw [cell_of_row _ _ _ _ _ _ hh, eq]; rfl
  have m3 : wo.cell? ⟨g, 3, none⟩ = some y3 := by rw [cell_of_row _ _ _ _ _ _ hh, eq]; rfl
  have m4 : wo.cell? ⟨g, 4, none⟩ = some y4 := by rw [cell_of_row _ _ _ _ _ _ hh, eq]; rfl
  have m5 : wo.cell? ⟨g, 5, none⟩ = some y5 := by rw [cell_of_row _ _ _ _ _ _ hh, eq]; rfl
  have m6 : wo.cell? ⟨g, 6, none⟩ = some q := by rw [cell_of_row _ _ _ _ _ _ hh, eq]; rfl
  have HH := Lib.hid hh
  clear hh
  have hIn : In (fun b => S b ∨ (g < b ∧ b < wo.heap.size)) wo := fun b hb => by
   rcases hb with hb | ⟨_, hb⟩
   · have := hS b hb; omega
   · exact hb
  by_cases hk0 : 0 < k
  · obtain ⟨b, o, rfl, hb, hobs⟩ := HA.out (by omega)
    have hkl : k - 1 < l.length := by rw [HL.out]; omega
    obtain ⟨pa, hpa, hcell⟩ := hobs.get hkl
    have hbl0 : b < w.heap.size := hS b hb
    have hpa' := (hpa.below hS hbwo).more (S' := fun b => S b ∨ (g < b ∧ b < wo.heap.size)) fun _ h => .inl h
    have hld := Lib.hid (list_drop hkl)
    have call : ∀ wd, Below wo.heap.size wo wd → Calls Tryz.prog 109 #[vO l[k - 1] pa, vO (Ob.list (l.drop k)) q] wd (RetO wd (fun b => S b ∨ (g < b ∧ b < wo.heap.size)) (.cons l[k - 1] (Ob.list (l.drop k)))) :=
     fun wd hbd => consP _ _ pa q wd _ (hIn.later hbd.size) (hpa'.below hIn hbd) (hq.below hIn hbd)
    obtain ⟨x0, x1, x2, x3, x4, x5, ea⟩ := cells7 l[k - 1] pa
    rw [ea] at hcell
    have l0 := (hbwo.cell (p := ⟨b, o + (k - 1) * 7 + 0, none⟩) hbl0).trans (hcell 0 _ rfl)
    have l1 := (hbwo.cell (p := ⟨b, o + (k - 1) * 7 + 1, none⟩) hbl0).trans (hcell 1 _ rfl)
    have l2 := (hbwo.cell (p := ⟨b, o + (k - 1) * 7 + 2, none⟩) hbl0).trans (hcell 2 _ rfl)
    have l3 := (hbwo.cell (p := ⟨b, o + (k - 1) * 7 + 3, none⟩) hbl0).trans (hcell 3 _ rfl)
    have l4 := (hbwo.cell (p := ⟨b, o + (k - 1) * 7 + 4, none⟩) hbl0).trans (hcell 4 _ rfl)
    have l5 := (hbwo.cell (p := ⟨b, o + (k - 1) * 7 + 5, none⟩) hbl0).trans (hcell 5 _ rfl)
    have l6 := (hbwo.cell (p := ⟨b, o + (k - 1) * 7 + 6, none⟩) hbl0).trans (hcell 6 _ rfl)
    rw [Nat.add_zero] at l0
    unfold vO at call
    rw [ea, eq] at call
    have CALL := Lib.hid call
    have EQ := Lib.hid eq
    clear call hcell hobs hpa hpa' ea eq
    have hp0 : (0 : Int) ≤ (L : Int) - 1 - (i : Int) := by omega
    have hp1 : (L : Int) - 1 - (i : Int) < L := by omega
    have hp2 : ((L : Int) - 1 - (i : Int)).toNat = k - 1 := by omega
    have hp3 : (i : Int) < L := by omega
    have hp6 : (i : Int) ≤ (L : Int) - 1 := by omega
    have hp4 : IntKind.i64.wrap ((L : Int) - 1) = (L : Int) - 1 := IntWalk.i64_in _ (by omega)
    have hp5 : IntKind.i64.wrap ((L : Int) - 1 - (i : Int)) = (L : Int) - 1 - (i : Int) := IntWalk.i64_in _ (by omega)
    have hkL' : 0 < k ∧ i + k ≤ L ∧ L ≤ i + k := by omega
    clear hkL
    go_wp2_with fail
    go_still_tail 9, (by kernel_rfl)
    change wpList _ _ _ _ _ wo.drew
    have hbd : Below wo.heap.size wo wo.drew := (Below.refl _ _).drew
    generalize wo.drew = wd at hbd ⊢
    clear l0 l1 l2 l3 l4 l5 l6 m0 m1 m2 m3 m4 m5 m6
    go_wp2_with fail
    refine (CALL.out wd hbd).mono ?_
    rintro e w3 ⟨p3, rfl, hp3, hb3⟩
    have h34 := hb3.size
    have h45 := hbd.size
    have hbe := hbd.trans (hb3.mono hbd.size)
    have hh3 := Lib.hid ((hbe.block g hgl).trans HH.out)
    go_wp2_with (refine storeV (w1 := w3) rfl (.tmp 3) (.tmp 20) rfl g _ _ rfl rfl hp3 _ _ hh3.out (by simp [cellsO_length]) ?_)
    go_roundw
    case rel =>
     refine ⟨i + 1, by omega, by go_num, ⟨p3, t, ?_, ?_, below_setRowO (hbl.trans (hbe.mono (by omega))) (Nat.le_refl _) _⟩⟩
     · rw [show L - (i + 1) = k - 1 from by omega, hld.out, show k - 1 + 1 = k from by omega]
       exact setRow_heap _ _ _ _ _ _ hh3.out
     · rw [show L - (i + 1) = k - 1 from by omega, hld.out, show k - 1 + 1 = k from by omega]
       refine (hp3.setRow g (fun h => ?_) _).more (fun b h => ?_)
       · rcases h with (h | ⟨h, _⟩) | ⟨h, _⟩
         · have := hS g h; omega
         · omega
         · omega
       · rw [size_setRow]
         rcases h with (h | ⟨h, h2⟩) | ⟨h, h2⟩
         · exact .inl h
         · exact .inr ⟨h, by omega⟩
         · exact .inr ⟨by omega, h2⟩
    case measure => simp [intOf]; omega
  · have hkz : k = 0 := by omega
    subst hkz
    have hn : ¬ (i : Int) < L := by omega
    clear hkL
    have hh3 := Lib.hid ((hbl.block w.heap.size (by omega)).trans HGW.out)
    have ev := Lib.hid (show Value.agg #[y0, y1, y2, y3, y4, y5, q] = vO (Ob.list (l.drop 0)) q from by unfold vO; rw [eq])
    have HQ := Lib.hid hq
    have hbx := Lib.hid hbwo
    clear eq hq hbl hbwo
    go_wp2_with (refine storeV (w1 := wo) rfl (.tmp 2) (.tmp 22) rfl w.heap.size _ _ rfl ev.out HQ.out _ _ hh3.out rfl ?_)
    exact retV rfl rfl hh3.out HQ.out (fun h => by
     rcases h with h | ⟨h, _⟩
     · have := hS _ h; omega
     · omega) (fun b hb => by
     rcases hb with hb | ⟨h1, h2⟩
     · exact .inl hb
     · exact .inr ⟨by omega, h2⟩) (Nat.le_refl _) hbx.out
def At (w : World) (S : Nat → Prop) (o : Ob) (b k : Nat) (p : Value) : Prop :=
 (S b ∧ Plain w b) ∧ (∀ j u, (cellsO o p)[j]? = some u → w.cell? ⟨b, k + j, none⟩ = some u) ∧ Pair w S o p
theorem At.keep {w w' : World} {S S' : Nat → Prop} (hS : ∀ b, S b → S' b) (hk : ∀ b, S b → w'.heap[b]? = w.heap[b]?) {o : Ob} {b k : Nat} {p : Value} (h : At w S o b k p) : At w' S' o b k p :=
 ⟨⟨hS b h.1.1, h.1.2.keep (hk b h.1.1)⟩, fun j u hj => (World.cell?_of_block (a := ⟨b, k + j, none⟩) (hk b h.1.1)).trans (h.2.1 j u hj), h.2.2.keep hS hk⟩
theorem At.below {w w' : World} {S : Nat → Prop} {B : Nat} {o : Ob} {b k : Nat} {p : Value} (h : At w S o b k p) (hS : ∀ b, S b → b < B) (hb : Below B w w') : At w' S o b k p := h.keep (fun _ h => h) fun q hq => hb.block q (hS q hq)
theorem At.more {w : World} {S S' : Nat → Prop} {o : Ob} {b k : Nat} {p : Value} (h : At w S o b k p) (hS : ∀ b, S b → S' b) : At w S' o b k p := h.keep hS fun _ _ => rfl
theorem At.cells {w : World} {S : Nat → Prop} {o : Ob} {b k : Nat} {p : Value} (h : At w S o b k p) : ∃ x0 x1 x2 x3 x4 x5, cellsO o p = [x0, x1, x2, x3, x4, x5, p] ∧
 w.cell? ⟨b, k, none⟩ = some x0 ∧ w.cell? ⟨b, k + 1, none⟩ = some x1 ∧ w.cell? ⟨b, k + 2, none⟩ = some x2 ∧ w.cell? ⟨b, k + 3, none⟩ = some x3 ∧ w.cell? ⟨b, k + 4, none⟩ = some x4 ∧ w.cell? ⟨b, k + 5, none⟩ = some x5 ∧ w.cell? ⟨b, k + 6, none⟩ = some p := by
 obtain ⟨x0, x1, x2, x3, x4, x5, e⟩ := cells7 o p
 have hc := h.2.1
 rw [e] at hc
 exact ⟨x0, x1, x2, x3, x4, x5, e, hc 0 _ rfl, hc 1 _ rfl, hc 2 _ rfl, hc 3 _ rfl, hc 4 _ rfl, hc 5 _ rfl, hc 6 _ rfl⟩
theorem At.last {w : World} {S : Nat → Prop} {o : Ob} {b k : Nat} {p : Value} (h : At w S o b k p) : w.cell? ⟨b, k + 6, none⟩ = some p := by
 obtain ⟨_, _, _, _, _, _, _, _, _, _, _, _, _, h6⟩ := h.cells; exact h6
theorem Pair.parts {w : World} {S : Nat → Prop} {a d : Ob} {p : Value} (h : Pair w S (.cons a d) p) : ∃ b o c pa pd, p = .slice (some ⟨b, o, none⟩) 2 c ∧ 2 ≤ c ∧ At w S a b o pa ∧ At w S d b (o + 7) pd := by
 obtain ⟨b, o, c, pa, pd, h1, h2, h3, h4, h5, h6⟩ := h
 refine ⟨b, o, c, pa, pd, h1, h2, ⟨h3, fun j u hj => h4 j u ?_, h5⟩, ⟨h3, fun j u hj => ?_, h6⟩⟩
 · rw [List.getElem?_append_left (by
    rcases Nat.lt_or_ge j (cellsO a pa).length with hlt | hge
    · exact hlt
    · rw [List.getElem?_eq_none hge] at hj; cases hj)]
   exact hj
 · rw [show o + 7 + j = o + (7 + j) from by omega]
   refine h4 (7 + j) u ?_
   rw [List.getElem?_append_right (by rw [cellsO_length]; omega), cellsO_length, show 7 + j - 7 = j from by omega]
   exact hj
theorem Pair.flat {w : World} {S : Nat → Prop} {o : Ob} {p : Value} (h : Pair w S o p) (ho : o.isCons = false) : p = .slice none 0 0 := by
 cases o with
 | cons a d => simp [Ob.isCons] at ho
 | _ => exact h

theorem BA_inj {l m : List UInt8} (h : BA l = BA m) : l = m := by
 have := congrArg LA h
 rwa [LA_BA, LA_BA] at this
theorem cells_inj {w : World} {S S' : Nat → Prop} : ∀ {a a' : Ob} {p p' : Value}, cellsO a p = cellsO a' p' → Pair w S a p → Pair w S' a' p' → a = a' ∧ p = p'
 | .num q, .num q', p, p', h, _, _ => by
  unfold cellsO at h
  simp only [List.cons.injEq, Value.string.injEq, and_true, true_and] at h
  exact ⟨by rw [q_ext h.1 h.2.1], h.2.2⟩
 | .str s, .str s', p, p', h, _, _ => by
  unfold cellsO at h
  simp only [List.cons.injEq, Value.string.injEq, and_true, true_and] at h
  exact ⟨by rw [BA_inj h.1], h.2⟩
 | .sym x y, .sym x' y', p, p', h, _, _ => by
  unfold cellsO at h
  simp only [List.cons.injEq, Value.string.injEq, and_true, true_and] at h
  exact ⟨by rw [BA_inj h.1, BA_inj h.2.1], h.2.2⟩
 | .cons a d, .cons a' d', p, p', h, hp, hp' => by
  unfold cellsO at h
  simp only [List.cons.injEq, and_true, true_and] at h
  subst h
  obtain ⟨b, o, c, pa, pd, rfl, h2, h3, h4, h5, h6⟩ := hp
  obtain ⟨b', o', c', pa', pd', e, h2', h3', h4', h5', h6'⟩ := hp'
  simp only [Value.slice.injEq, Option.some.injEq, Addr.mk.injEq, true_and, and_true] at e
  obtain ⟨⟨rfl, rfl⟩, rfl⟩ := e
  have key : cellsO a pa ++ cellsO d pd = cellsO a' pa' ++ cellsO d' pd' := by
   apply List.ext_getElem?
   intro j
   by_cases hj : j < 14
   · have l1 : j < (cellsO a pa ++ cellsO d pd).length := by rw [List.length_append, cellsO_length, cellsO_length]; omega
     have l2 : j < (cellsO a' pa' ++ cellsO d' pd').length := by rw [List.length_append, cellsO_length, cellsO_length]; omega
     have e1 := h4 j _ (List.getElem?_eq_getElem l1)
     have e2 := h4' j _ (List.getElem?_eq_getElem l2)
     rw [List.getElem?_eq_getElem l1, List.getElem?_eq_getElem l2, ← e1, ← e2]
   · rw [List.getElem?_eq_none (by rw [List.length_append, cellsO_length, cellsO_length]; omega), List.getElem?_eq_none (by rw [List.length_append, cellsO_length, cellsO_length]; omega)]
  have k1 : cellsO a pa = cellsO a' pa' ∧ cellsO d pd = cellsO d' pd' := List.append_inj key (by rw [cellsO_length, cellsO_length])
  obtain ⟨ea, _⟩ := cells_inj k1.1 h5 h5'
  obtain ⟨ed, _⟩ := cells_inj k1.2 h6 h6'
  exact ⟨by rw [ea, ed], rfl⟩
 | .num _, .str _, _, _, h, _, _ => by simp [cellsO] at h
 | .num _, .sym _ _, _, _, h, _, _ => by simp [cellsO] at h
 | .num _, .cons _ _, _, _, h, _, _ => by simp [cellsO] at h
 | .str _, .num _, _, _, h, _, _ => by simp [cellsO] at h
 | .str _, .sym _ _, _, _, h, _, _ => by simp [cellsO] at h
 | .str _, .cons _ _, _, _, h, _, _ => by simp [cellsO] at h
 | .sym _ _, .num _, _, _, h, _, _ => by simp [cellsO] at h
 | .sym _ _, .str _, _, _, h, _, _ => by simp [cellsO] at h
 | .sym _ _, .cons _ _, _, _, h, _, _ => by simp [cellsO] at h
 | .cons _ _, .num _, _, _, h, _, _ => by simp [cellsO] at h
 | .cons _ _, .str _, _, _, h, _, _ => by simp [cellsO] at h
 | .cons _ _, .sym _ _, _, _, h, _, _ => by simp [cellsO] at h
theorem At.inj {w : World} {S S' : Nat → Prop} {a a' : Ob} {b k : Nat} {p p' : Value} (h : At w S a b k p) (h' : At w S' a' b k p') : a = a' := by
 refine (cells_inj (w := w) (List.ext_getElem? fun j => ?_) h.2.2 h'.2.2).1
 by_cases hj : j < 7
 · have l1 : j < (cellsO a p).length := by rw [cellsO_length]; omega
   have l2 : j < (cellsO a' p').length := by rw [cellsO_length]; omega
   have e1 := h.2.1 j _ (List.getElem?_eq_getElem l1)
   have e2 := h'.2.1 j _ (List.getElem?_eq_getElem l2)
   rw [List.getElem?_eq_getElem l1, List.getElem?_eq_getElem l2, ← e1, ← e2]
 · rw [List.getElem?_eq_none (by rw [cellsO_length]; omega), List.getElem?_eq_none (by rw [cellsO_length]; omega)]
def CntW (w wr : World) (S : Nat → Prop) (x : Ob) (b k : Nat) (m r : Int) : Prop := (∃ p, At w S x b k p) ∧ m + x.nodes = r ∧ w = wr

set_option maxHeartbeats 2000000 in
set_option maxRecDepth 100000 in
theorem countO : ∀ (N : Nat) (a : Ob) (b k : Nat) (p : Value) (m : Int) (w : World) (S : Nat → Prop), a.nodes ≤ N → At w S a b k p → 0 ≤ m → m + a.nodes ≤ 3000 →
 Calls Tryz.prog 90 #[.pointer (some ⟨b, k, none⟩), .int .i64 m] w fun e w' => e = .returned (.int .i64 (m + a.nodes)) ∧ w = w' := by
 intro N
 induction N with
 | zero => intro a b k p m w S hN; have := a.nodes_pos; omega
 | succ N IH =>
  intro a b k p m w S hN h hm hmn
  have pos := a.nodes_pos
  have IH' := Lib.hid IH
  clear IH
  obtain ⟨R, hR⟩ : ∃ R : Int, m + a.nodes = R := ⟨_, rfl⟩
  rw [hR] at hmn ⊢
  have h0 : Hid (CntW w w S a b k m R) := ⟨⟨p, h⟩, hR, rfl⟩
  clear h hR
  go_enter Tryz.func90, Tryz.ntmps90
  go_wp2_with fail
  go_loopg [0, 1] a.nodes (fun n u v wr => ∃ (x : Ob) (b k : Nat) (m : Int), u = .pointer (some ⟨b, k, none⟩) ∧ v = .int .i64 m ∧ 0 ≤ m ∧ x.nodes ≤ n ∧ n ≤ N + 1 ∧ Hid (CntW w wr S x b k m R))
  case atStart => exact ⟨a, b, k, m, rfl, rfl, hm, Nat.le_refl _, hN, h0⟩
  case round =>
   clear h0
   obtain ⟨x, b, k, m, rfl, rfl, hm, hxn, hnN, hE⟩ := hrel
   obtain ⟨⟨p, h⟩, hR, hw⟩ := hE.out
   subst hw
   clear hE
   have posx := x.nodes_pos
   have l6 := h.last
   cases hx : x.isCons with
   | false =>
    obtain rfl := h.2.2.flat hx
    have hx1 : x.nodes = 1 := by cases x <;> first | rfl | simp [Ob.isCons] at hx
    have hR' : m + 1 = R := by omega
    have hmm : m ≤ 3000 := by omega
    have HR := Lib.hid hR'
    clear hR hR' hx h
    go_wp2
    go_ret
    exact ⟨ret_int HR.out, rfl⟩
   | true =>
    cases x with
    | cons a d =>
     obtain ⟨b', o', c', pa, pd, rfl, hc, hA, hD⟩ := h.2.2.parts
     have hnn : (Ob.cons a d).nodes = 1 + a.nodes + d.nodes := rfl
     have pa1 := a.nodes_pos
     have pd1 := d.nodes_pos
     have call := Lib.hid (IH'.out a b' o' pa (m + 1) w S (by omega) hA (by omega) (by omega))
     have hE2 : Hid (CntW w w S d b' (o' + 7) (m + 1 + a.nodes) R) := ⟨⟨pd, hD⟩, by omega, rfl⟩
     have hq : 0 ≤ m + 1 + a.nodes := by omega
     have hd : d.nodes < gk := by omega
     have hd2 : d.nodes ≤ N + 1 := by omega
     have hmm : m ≤ 3000 := by omega
     have hm3 : m + 1 ≤ 3001 := by omega
     clear hx h hA hD hR hnn
     go_wp2_with fail
     refine call.out.mono ?_
     rintro e w' ⟨rfl, rfl⟩
     go_wp2_with fail
     go_roundg d.nodes
     case measure => exact hd
     case rel => exact ⟨d, b', o' + 7, m + 1 + a.nodes, rfl, rfl, hq, Nat.le_refl _, hd2, hE2⟩
    | _ => simp [Ob.isCons] at hx
theorem nodesP (a : Ob) (p : Value) (w : World) (S : Nat → Prop) (hS : In S w) (h : Pair w S a p) (hn : a.nodes ≤ 3000) :
 Calls Tryz.prog 59 #[vO a p] w (fun e w' => e = .returned (.int .i64 a.nodes) ∧ Below w.heap.size w w') := by
 obtain ⟨x0, x1, x2, x3, x4, x5, e⟩ := cells7 a p
 have hb : Below w.heap.size w (w.alloc (.cells #[x0, x1, x2, x3, x4, x5, p] 47)) := Below.alloc (Below.refl _ _) (Nat.le_refl _) _
 have hA : At (w.alloc (.cells #[x0, x1, x2, x3, x4, x5, p] 47)) (fun b => S b ∨ b = w.heap.size) a w.heap.size 0 p := by
  refine ⟨⟨.inr rfl, _, _, heap_alloc_new w _⟩, fun j u hj => ?_, (h.below hS hb).more fun _ h => .inl h⟩
  rw [Nat.zero_add, cell_of_row _ _ _ _ _ _ (heap_alloc_new w _), ← hj, e]
  simp
 have call := Lib.hid (countO a.nodes a w.heap.size 0 p 0 _ _ (Nat.le_refl _) hA (by omega) (by omega))
 unfold vO
 rw [e]
 clear e hA
 go_enter Tryz.func59, Tryz.ntmps59
 go_wp2_with fail
 refine call.out.mono ?_
 rintro e w' ⟨rfl, rfl⟩
 have HB := Lib.hid hb
 clear hb
 go_wp2
 go_ret
 exact ⟨ret_int (by omega), HB.out⟩
def Ob.cnt : Ob → Nat → Option Nat
 | .cons _ d, n => d.cnt (n + 1)
 | x, n => if x = .nil then some n else none
theorem info_of {P : Program} {t : TypeId} {z : Value} {a b : Nat} (h : (P.info? t).map (fun i => (i.zero, i.size, i.bytes)) = some (some z, a, b)) : ∃ i, P.info? t = some i ∧ i.zero = some z ∧ i.size = a ∧ i.bytes = b := by
 generalize P.info? t = x at h ⊢
 cases x with
 | none => cases h
 | some j =>
  simp only [Option.map_some, Option.some.injEq, Prod.mk.injEq] at h
  exact ⟨j, rfl, h.1, h.2.1, h.2.2⟩
def zeroO : Value := .agg #[.int .i64 0, e0, e0, e0, e0, e0, .slice none 0 0]

def QuietV (w : World) (v : Value) (e : Ending) (w' : World) : Prop := e = .returned v ∧ ∃ n, w' = w.drewN n
theorem QuietV.below {w w' : World} {v : Value} {e : Ending} (h : QuietV w v e w') : e = .returned v ∧ Below w.heap.size w w' := by
 obtain ⟨h1, n, rfl⟩ := h
 exact ⟨h1, rfl, rfl, rfl, Nat.le_refl _, fun _ _ => rfl⟩






def vQ (q : Rat) : Value := .agg #[.int .i64 1, .string (nt q), .string (dt q), .string ⟨#[]⟩, .string ⟨#[]⟩, .string ⟨#[]⟩, .slice none 0 0]
def RetN (w : World) (q : Rat) (e : Ending) (w' : World) : Prop := e = .returned (vQ q) ∧ Below w.heap.size w w'
theorem RetO.num {w w' : World} {S : Nat → Prop} {q : Rat} {e : Ending} (h : RetO w S (.num q) e w') : RetN w q e w' := by
 obtain ⟨p, rfl, hp, hb⟩ := h
 have e : p = .slice none 0 0 := hp
 subst e
 exact ⟨rfl, hb⟩
theorem retN {fn : Func} {q : Tmp} {w0 w : World} {tmps : Array Value} {g : Nat} {x : Rat} {t : TypeId} {fr : Nat × Nat} {cs : Array Value}
 (h : fn.results = #[.cell q 47]) (hq : tmps.getD q undef = .pointer (some ⟨g, 0, none⟩)) (hg : w.heap[g]? = some (.cells cs t fr)) (hc : Value.agg cs = vQ x) (hb : Below w0.heap.size w0 w) :
 bodyPost Tryz.prog fn (RetN w0 x) Exit.ret ⟨tmps, []⟩ w := by
 have hs : cs.size = 7 := by unfold vQ at hc; injection hc with hc; rw [hc]; rfl
 exact retO h hq hg hs ⟨by rw [hc], hb⟩
theorem setRow7 {w : World} {g : Nat} {old : Array Value} {t : TypeId} (h : w.heap[g]? = some (.cells old t (0, 0))) (hs : old.size = 7) (a0 a1 a2 a3 a4 a5 a6 : Value) :
 ((((((w.setCell ⟨g, 0, none⟩ a0).setCell ⟨g, 1, none⟩ a1).setCell ⟨g, 2, none⟩ a2).setCell ⟨g, 3, none⟩ a3).setCell ⟨g, 4, none⟩ a4).setCell ⟨g, 5, none⟩ a5).setCell ⟨g, 6, none⟩ a6 = w.setRow g #[a0, a1, a2, a3, a4, a5, a6] := by
 obtain ⟨old⟩ := old
 match old, hs with
 | [o0, o1, o2, o3, o4, o5, o6], _ =>
  rw [setCell_eq_setRow _ g 0 _ t _ a0 h]
  have h1 := setRow_heap w g _ (#[o0, o1, o2, o3, o4, o5, o6].setIfInBounds 0 a0) _ _ h
  rw [setCell_eq_setRow _ g 1 _ t _ a1 h1, setRow_setRow]
  have h2 := setRow_heap w g _ ((#[o0, o1, o2, o3, o4, o5, o6].setIfInBounds 0 a0).setIfInBounds 1 a1) _ _ h
  rw [setCell_eq_setRow _ g 2 _ t _ a2 h2, setRow_setRow]
  have h3 := setRow_heap w g _ (((#[o0, o1, o2, o3, o4, o5, o6].setIfInBounds 0 a0).setIfInBounds 1 a1).setIfInBounds 2 a2) _ _ h
  rw [setCell_eq_setRow _ g 3 _ t _ a3 h3, setRow_setRow]
  have h4 := setRow_heap w g _ ((((#[o0, o1, o2, o3, o4, o5, o6].setIfInBounds 0 a0).setIfInBounds 1 a1).setIfInBounds 2 a2).setIfInBounds 3 a3) _ _ h
  rw [setCell_eq_setRow _ g 4 _ t _ a4 h4, setRow_setRow]
  have h5 := setRow_heap w g _ (((((#[o0, o1, o2, o3, o4, o5, o6].setIfInBounds 0 a0).setIfInBounds 1 a1).setIfInBounds 2 a2).setIfInBounds 3 a3).setIfInBounds 4 a4) _ _ h
  rw [setCell_eq_setRow _ g 5 _ t _ a5 h5, setRow_setRow]
  have h6 := setRow_heap w g _ ((((((#[o0, o1, o2, o3, o4, o5, o6].setIfInBounds 0 a0).setIfInBounds 1 a1).setIfInBounds 2 a2).setIfInBounds 3 a3).setIfInBounds 4 a4).setIfInBounds 5 a5) _ _ h
  rw [setCell_eq_setRow _ g 6 _ t _ a6 h6, setRow_setRow]
  rfl
theorem row7 {w : World} {g : Nat} {t : TypeId} {a0 a1 a2 a3 a4 a5 a6 : Value} (h : w.heap[g]? = some (.cells #[a0, a1, a2, a3, a4, a5, a6] t (0, 0))) :
 (w.cell? ⟨g, 0, none⟩ = some a0 ∧ w.cell? ⟨g, 1, none⟩ = some a1 ∧ w.cell? ⟨g, 2, none⟩ = some a2 ∧ w.cell? ⟨g, 3, none⟩ = some a3 ∧ w.cell? ⟨g, 4, none⟩ = some a4 ∧ w.cell? ⟨g, 5, none⟩ = some a5 ∧ w.cell? ⟨g, 6, none⟩ = some a6) ∧
   (∀ j, w.frozen? ⟨g, j, none⟩ = false) := by
 refine ⟨⟨?_, ?_, ?_, ?_, ?_, ?_, ?_⟩, fun j => by simp [World.frozen?, h]⟩
 all_goals (rw [cell_of_row _ _ _ _ _ _ h]; rfl)
abbrev row (a0 a1 a2 a3 a4 a5 a6 : Value) : Array Value := #[a0, a1, a2, a3, a4, a5, a6]
structure Three (w W : World) (x y : Array Value) : Prop where
 b0 : W.heap[w.heap.size]? = some (.cells x 47 (0, 0))
 b1 : W.heap[w.heap.size + 1]? = some (.cells y 47 (0, 0))
 b2 : ∃ z : Array Value, z.size = 7 ∧ W.heap[w.heap.size + 1 + 1]? = some (.cells z 47 (0, 0))
 bel : Below w.heap.size w W
 size : w.heap.size + 3 ≤ W.heap.size
theorem Three.new (w : World) (x y z : Array Value) (hz : z.size = 7) : Three w (((w.alloc (.cells x 47)).alloc (.cells y 47)).alloc (.cells z 47)) x y := by
 refine ⟨?_, ?_, ⟨z, hz, heap_new_at (by simp)⟩, Below.alloc (Below.alloc (Below.alloc (Below.refl _ _) (Nat.le_refl _) _) (by simp) _) (by simp; omega) _, by simp⟩
 · rw [Below.heap_alloc _ _ _ (by simp; omega)]; exact heap_alloc2_old w _ _
 · rw [Below.heap_alloc _ _ _ (by simp)]; exact heap_alloc2_new w _ _
theorem Three.below {w W W' : World} {x y : Array Value} (h : Three w W x y) (hb : Below W.heap.size W W') : Three w W' x y := by
 have := h.size
 obtain ⟨z, hz, h2⟩ := h.b2
 exact ⟨(hb.block _ (by omega)).trans h.b0, (hb.block _ (by omega)).trans h.b1, ⟨z, hz, (hb.block _ (by omega)).trans h2⟩, h.bel.trans (hb.mono (by omega)), Nat.le_trans h.size hb.size⟩
theorem Three.set {w W : World} {x y : Array Value} (h : Three w W x y) (hx : x.size = 7) (hy : y.size = 7) (a0 a1 a2 a3 a4 a5 a6 b0 b1 b2 b3 b4 b5 b6 : Value) :
 Three w (((((((((((((((W.setCell ⟨w.heap.size, 0, none⟩ a0).setCell ⟨w.heap.size, 1, none⟩ a1).setCell ⟨w.heap.size, 2, none⟩ a2).setCell ⟨w.heap.size, 3, none⟩ a3).setCell ⟨w.heap.size, 4, none⟩ a4).setCell ⟨w.heap.size, 5, none⟩ a5).setCell ⟨w.heap.size, 6, none⟩ a6).setCell
  ⟨w.heap.size + 1, 0, none⟩ b0).setCell ⟨w.heap.size + 1, 1, none⟩ b1).setCell ⟨w.heap.size + 1, 2, none⟩ b2).setCell ⟨w.heap.size + 1, 3, none⟩ b3).setCell ⟨w.heap.size + 1, 4, none⟩ b4).setCell ⟨w.heap.size + 1, 5, none⟩ b5).setCell ⟨w.heap.size + 1, 6, none⟩ b6)) #[a0, a1, a2, a3, a4, a5, a6] #[b0, b1, b2, b3, b4, b5, b6] := by
 rw [setRow7 h.b0 hx]
 have h1 : (W.setRow w.heap.size #[a0, a1, a2, a3, a4, a5, a6]).heap[w.heap.size + 1]? = _ := (setRow_other _ _ _ _ (by omega)).trans h.b1
 rw [setRow7 h1 hy]
 obtain ⟨z, hz, h2⟩ := h.b2
 refine ⟨?_, setRow_heap _ _ _ _ _ _ h1, ⟨z, hz, ?_⟩, below_setRowO (below_setRowO h.bel (Nat.le_refl _) _) (by omega) _, by rw [size_setRow, size_setRow]; exact h.size⟩
 · rw [setRow_other _ _ _ _ (by omega)]; exact setRow_heap _ _ _ _ _ _ h.b0
 · rw [setRow_other _ _ _ _ (by omega), setRow_other _ _ _ _ (by omega)]; exact h2
theorem Three.ret {w W : World} {x y : Array Value} (T : Three w W x y) (q : Rat) {fn : Func} {r : Tmp} {tmps : Array Value} (h : fn.results = #[.cell r 47]) (hr : tmps.getD r undef = .pointer (some ⟨w.heap.size + 1 + 1, 0, none⟩)) :
 bodyPost Tryz.prog fn (RetN w q) Exit.ret ⟨tmps, []⟩ (((((((W.setCell ⟨w.heap.size + 1 + 1, 0, none⟩ (.int .i64 1)).setCell ⟨w.heap.size + 1 + 1, 1, none⟩ (.string (nt q))).setCell ⟨w.heap.size + 1 + 1, 2, none⟩ (.string (dt q))).setCell ⟨w.heap.size + 1 + 1, 3, none⟩ (.string ⟨#[]⟩)).setCell ⟨w.heap.size + 1 + 1, 4, none⟩ (.string ⟨#[]⟩)).setCell ⟨w.heap.size + 1 + 1, 5, none⟩ (.string ⟨#[]⟩)).setCell ⟨w.heap.size + 1 + 1, 6, none⟩ (.slice none 0 0)) := by
 obtain ⟨z, hz, h2⟩ := T.b2
 rw [setRow7 h2 hz]
 exact retN h hr (setRow_heap _ _ _ _ _ _ h2) rfl (below_setRowO T.bel (by omega) _)

structure TwoB (w W : World) (x : Array Value) : Prop where
 b0 : W.heap[w.heap.size]? = some (.cells x 47 (0, 0))
 b1 : ∃ z : Array Value, z.size = 7 ∧ W.heap[w.heap.size + 1]? = some (.cells z 47 (0, 0))
 bel : Below w.heap.size w W
 size : w.heap.size + 2 ≤ W.heap.size
theorem TwoB.new (w : World) (x z : Array Value) (hz : z.size = 7) : TwoB w ((w.alloc (.cells x 47)).alloc (.cells z 47)) x :=
 ⟨heap_alloc2_old w _ _, ⟨z, hz, heap_alloc2_new w _ _⟩, Below.alloc (Below.alloc (Below.refl _ _) (Nat.le_refl _) _) (by simp) _, by simp⟩
theorem TwoB.below {w W W' : World} {x : Array Value} (h : TwoB w W x) (hb : Below W.heap.size W W') : TwoB w W' x := by
 have := h.size
 obtain ⟨z, hz, h2⟩ := h.b1
 exact ⟨(hb.block _ (by omega)).trans h.b0, ⟨z, hz, (hb.block _ (by omega)).trans h2⟩, h.bel.trans (hb.mono (by omega)), Nat.le_trans h.size hb.size⟩
theorem TwoB.set {w W : World} {x : Array Value} (h : TwoB w W x) (y : Array Value) : TwoB w (W.setRow w.heap.size y) y := by
 obtain ⟨z, hz, h2⟩ := h.b1
 exact ⟨setRow_heap _ _ _ _ _ _ h.b0, ⟨z, hz, (setRow_other _ _ _ _ (by omega)).trans h2⟩, below_setRowO h.bel (Nat.le_refl _) _, by rw [size_setRow]; exact h.size⟩
theorem TwoB.ret {w W : World} {x : Array Value} (T : TwoB w W x) (q : Rat) {fn : Func} {r : Tmp} {tmps : Array Value} (h : fn.results = #[.cell r 47]) (hr : tmps.getD r undef = .pointer (some ⟨w.heap.size + 1, 0, none⟩)) :
 bodyPost Tryz.prog fn (RetN w q) Exit.ret ⟨tmps, []⟩ (((((((W.setCell ⟨w.heap.size + 1, 0, none⟩ (.int .i64 1)).setCell ⟨w.heap.size + 1, 1, none⟩ (.string (nt q))).setCell ⟨w.heap.size + 1, 2, none⟩ (.string (dt q))).setCell ⟨w.heap.size + 1, 3, none⟩ (.string ⟨#[]⟩)).setCell ⟨w.heap.size + 1, 4, none⟩ (.string ⟨#[]⟩)).setCell ⟨w.heap.size + 1, 5, none⟩ (.string ⟨#[]⟩)).setCell ⟨w.heap.size + 1, 6, none⟩ (.slice none 0 0)) := by
 obtain ⟨z, hz, h2⟩ := T.b1
 rw [setRow7 h2 hz]
 exact retN h hr (setRow_heap _ _ _ _ _ _ h2) rfl (below_setRowO T.bel (by omega) _)

structure BoxB (w W : World) (x y : Array Value) : Prop where
 b0 : W.heap[w.heap.size]? = some (.cells x 47 (0, 0))
 b1 : W.heap[w.heap.size + 1]? = some (.cells y 47 (0, 0))
 bel : Below w.heap.size w W
 size : w.heap.size + 2 ≤ W.heap.size
theorem BoxB.new (w : World) (x y : Array Value) : BoxB w ((w.alloc (.cells x 47)).alloc (.cells y 47)) x y :=
 ⟨heap_alloc2_old w _ _, heap_alloc2_new w _ _, Below.alloc (Below.alloc (Below.refl _ _) (Nat.le_refl _) _) (by simp) _, by simp⟩
theorem BoxB.below {w W W' : World} {x y : Array Value} (h : BoxB w W x y) (hb : Below W.heap.size W W') : BoxB w W' x y := by
 have := h.size
 exact ⟨(hb.block _ (by omega)).trans h.b0, (hb.block _ (by omega)).trans h.b1, h.bel.trans (hb.mono (by omega)), Nat.le_trans h.size hb.size⟩






mutual
def Rw.cnt : Rw → Nat
 | .mk _ _ _ l => 1 + Rw.cnts l
def Rw.cnts : List Rw → Nat
 | [] => 0
 | r :: rs => r.cnt + Rw.cnts rs
end
mutual
def Rw.ok : Rw → Prop
 | .mk _ _ s l => s.size ≤ 12 ∧ l.length ≤ 6 ∧ Rw.oks l
def Rw.oks : List Rw → Prop
 | [] => True
 | r :: rs => r.ok ∧ Rw.oks rs
end
theorem Rw.cnt_pos : ∀ r : Rw, 1 ≤ r.cnt
 | .mk _ _ _ _ => by unfold Rw.cnt; omega
def NoB (b : Nat) : Prop := False
theorem NoB.in (w : World) : In NoB w := fun _ h => h.elim
def OkO (m : Nat) (o : Ob) : Prop := o.bd 20 ∧ o.nodes ≤ m
def RetX (w : World) (m : Nat) (e : Ending) (w' : World) : Prop := ∃ o p, e = .returned (vO o p) ∧ Pair w' (Upto w w' NoB) o p ∧ Below w.heap.size w w' ∧ OkO m o
theorem RetO.x {w w' : World} {o : Ob} {e : Ending} {m : Nat} (h : RetO w NoB o e w') (hm : OkO m o) : RetX w m e w' := by
 obtain ⟨p, h1, h2, h3⟩ := h
 exact ⟨o, p, h1, h2, h3, hm⟩

end Go.Proofs.YtflnffgohbbhiaaGreatDoor
