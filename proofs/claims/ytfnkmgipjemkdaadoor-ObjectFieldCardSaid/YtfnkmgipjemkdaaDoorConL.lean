/- The program's List. -/
import Derived.Test.YtfnkmgipjemkdaaDoorM33
import Derived.IntWalk
namespace Go.Proofs.YtfnkmgipjemkdaaDoor
open Go Go.RowKit
set_option linter.unusedVariables false

set_option maxHeartbeats 4000000 in
set_option maxRecDepth 100000 in
theorem listP (l : List Ob) (A : Option Addr) (c : Nat) (w : World) (S : Nat → Prop) (hS : In S w) (hc : l.length ≤ c) (hl : l.length ≤ 100000)
    (hA : 0 < l.length → ∃ b o, A = some ⟨b, o, none⟩ ∧ S b ∧ ObsAt w S b o l) :
    Calls Tryd.prog 13 #[.slice A l.length c] w (RetO w S (Ob.list l)) := by
  obtain ⟨L, hL⟩ : ∃ L, l.length = L := ⟨_, rfl⟩
  rw [hL] at hc hA hl ⊢
  have HL := Lib.hid hL
  have HA := Lib.hid hA
  clear hL hA
  go_enter Tryd.func13, Tryd.ntmps13
  go_wp2_with fail
  have hb0 : Below w.heap.size w (w.alloc (Obj.cells #[Value.int IntKind.i64 0, Value.string { data := #[] }, Value.string { data := #[] }, Value.string { data := #[] }, Value.string { data := #[] }, Value.string { data := #[] }, Value.slice none 0 0] 27)) := Below.alloc (Below.refl _ _) (Nat.le_refl _) _
  have hg0 := heap_alloc_new w (Obj.cells #[Value.int IntKind.i64 0, Value.string { data := #[] }, Value.string { data := #[] }, Value.string { data := #[] }, Value.string { data := #[] }, Value.string { data := #[] }, Value.slice none 0 0] 27)
  refine (nilP _ (fun _ => False)).mono ?_
  rintro e w1 ⟨p, rfl, hp, hb1⟩
  have h12 := hb1.size
  simp only [World.size_alloc] at h12
  have hg1 := Lib.hid ((hb1.block w.heap.size (by simp)).trans hg0)
  have hbw := hb0.trans (hb1.mono hb0.size)
  clear hg0 hb0 hb1
  have hp' : Pair w1 (fun _ => False) .nil p := hp
  go_wp2_with (refine storeV (w1 := w1) rfl (.tmp 3) (.tmp 5) rfl w1.heap.size .nil p rfl rfl hp _ _ (heap_alloc_new w1 _) rfl ?_)
  have hg := setRow_heap (w1.alloc (Obj.cells #[Value.int IntKind.i64 0, Value.string { data := #[] }, Value.string { data := #[] }, Value.string { data := #[] }, Value.string { data := #[] }, Value.string { data := #[] }, Value.slice none 0 0] 27)) w1.heap.size _ (cellsO .nil p).toArray _ _ (heap_alloc_new w1 _)
  have hbW := below_setRowO (Below.alloc hbw (by omega) (Obj.cells #[Value.int IntKind.i64 0, Value.string { data := #[] }, Value.string { data := #[] }, Value.string { data := #[] }, Value.string { data := #[] }, Value.string { data := #[] }, Value.slice none 0 0] 27)) (g := w1.heap.size) (by omega) (cellsO .nil p).toArray
  have hgW : ((w1.alloc (Obj.cells #[Value.int IntKind.i64 0, Value.string { data := #[] }, Value.string { data := #[] }, Value.string { data := #[] }, Value.string { data := #[] }, Value.string { data := #[] }, Value.slice none 0 0] 27)).setRow w1.heap.size (cellsO .nil p).toArray).heap[w.heap.size]? = some (Obj.cells #[Value.int IntKind.i64 0, Value.string { data := #[] }, Value.string { data := #[] }, Value.string { data := #[] }, Value.string { data := #[] }, Value.string { data := #[] }, Value.slice none 0 0] 27) := by
    rw [setRow_other _ _ _ _ (by omega), Below.heap_alloc _ _ _ (by omega)]
    exact hg1.out
  generalize (w1.alloc (Obj.cells #[Value.int IntKind.i64 0, Value.string { data := #[] }, Value.string { data := #[] }, Value.string { data := #[] }, Value.string { data := #[] }, Value.string { data := #[] }, Value.slice none 0 0] 27)).setRow w1.heap.size (cellsO .nil p).toArray = W at hg hbW hgW ⊢
  have h0 : Hid (ListW w W W S l w1.heap.size L) := ⟨p, _, by rw [List.drop_eq_nil_of_le (by rw [HL.out]; exact Nat.le_refl _)]; exact hg, by rw [List.drop_eq_nil_of_le (by rw [HL.out]; exact Nat.le_refl _)]; exact hp', Below.refl _ _⟩
  have HGW := Lib.hid hgW
  generalize w1.heap.size = g at h12 h0 ⊢
  clear hg hgW hp hp' hg1 hbw
  have h13 : w.heap.size < g := by omega
  go_wp2_with fail
  go_loopw [8] (fun v wr => ∃ i : Nat, i ≤ L ∧ v = .int .i64 (i : Int) ∧ Hid (ListW w W wr S l g (L - i))) (fun v _ => L - (intOf v).toNat)
  case atStart => exact ⟨0, Nat.zero_le _, rfl, h0⟩
  case round =>
    clear h0
    obtain ⟨i, hi, rfl, hE⟩ := hrel
    obtain ⟨k, hkL, hk⟩ : ∃ k, L = i + k ∧ k ≤ L := ⟨L - i, by omega, by omega⟩
    have hki := Lib.hid (show L - i = k from by omega)
    rw [hki.out] at hE
    obtain ⟨wo, rfl⟩ : ∃ wo : World, wo = wr := ⟨_, rfl⟩
    obtain ⟨q, t, hh, hq, hbl⟩ := hE.out
    clear hE
    have hwg : w.heap.size ≤ g := by omega
    have hbwo := hbW.trans (hbl.mono hwg)
    have hgl : g < wo.heap.size := by
      rcases Nat.lt_or_ge g wo.heap.size with h | h
      · exact h
      · rw [Array.getElem?_eq_none h] at hh; cases hh
    obtain ⟨y0, y1, y2, y3, y4, y5, eq⟩ := cells7 (Ob.list (l.drop k)) q
    have m0 : wo.cell? ⟨g, 0, none⟩ = some y0 := by rw [cell_of_row _ _ _ _ _ _ hh, eq]; rfl
    have m1 : wo.cell? ⟨g, 1, none⟩ = some y1 := by rw [cell_of_row _ _ _ _ _ _ hh, eq]; rfl
    have m2 : wo.cell? ⟨g, 2, none⟩ = some y2 := by rw [cell_of_row _ _ _ _ _ _ hh, eq]; rfl
    have m3 : wo.cell? ⟨g, 3, none⟩ = some y3 := by rw [cell_of_row _ _ _ _ _ _ hh, eq]; rfl
    have m4 : wo.cell? ⟨g, 4, none⟩ = some y4 := by rw [cell_of_row _ _ _ _ _ _ hh, eq]; rfl
    have m5 : wo.cell? ⟨g, 5, none⟩ = some y5 := by rw [cell_of_row _ _ _ _ _ _ hh, eq]; rfl
    have m6 : wo.cell? ⟨g, 6, none⟩ = some q := by rw [cell_of_row _ _ _ _ _ _ hh, eq]; rfl
    have HH := Lib.hid hh
    clear hh
    have hIn : In (fun b => S b ∨ (g < b ∧ b < wo.heap.size)) wo := fun b hb => by
      rcases hb with hb | ⟨_, hb⟩
      · have := hS b hb; omega
      · exact hb
    by_cases hk0 : 0 < k
    · obtain ⟨b, o, rfl, hb, hobs⟩ := HA.out (by omega)
      have hkl : k - 1 < l.length := by rw [HL.out]; omega
      obtain ⟨pa, hpa, hcell⟩ := hobs.get hkl
      have hbl0 : b < w.heap.size := hS b hb
      have hpa' := (hpa.below hS hbwo).more (S' := fun b => S b ∨ (g < b ∧ b < wo.heap.size)) fun _ h => .inl h
      have hld := Lib.hid (list_drop hkl)
      have call : ∀ wd, Below wo.heap.size wo wd → Calls Tryd.prog 30 #[vO l[k - 1] pa, vO (Ob.list (l.drop k)) q] wd (RetO wd (fun b => S b ∨ (g < b ∧ b < wo.heap.size)) (.cons l[k - 1] (Ob.list (l.drop k)))) :=
        fun wd hbd => consP _ _ pa q wd _ (hIn.later hbd.size) (hpa'.below hIn hbd) (hq.below hIn hbd)
      obtain ⟨x0, x1, x2, x3, x4, x5, ea⟩ := cells7 l[k - 1] pa
      rw [ea] at hcell
      have l0 := (hbwo.cell (p := ⟨b, o + (k - 1) * 7 + 0, none⟩) hbl0).trans (hcell 0 _ rfl)
      have l1 := (hbwo.cell (p := ⟨b, o + (k - 1) * 7 + 1, none⟩) hbl0).trans (hcell 1 _ rfl)
      have l2 := (hbwo.cell (p := ⟨b, o + (k - 1) * 7 + 2, none⟩) hbl0).trans (hcell 2 _ rfl)
      have l3 := (hbwo.cell (p := ⟨b, o + (k - 1) * 7 + 3, none⟩) hbl0).trans (hcell 3 _ rfl)
      have l4 := (hbwo.cell (p := ⟨b, o + (k - 1) * 7 + 4, none⟩) hbl0).trans (hcell 4 _ rfl)
      have l5 := (hbwo.cell (p := ⟨b, o + (k - 1) * 7 + 5, none⟩) hbl0).trans (hcell 5 _ rfl)
      have l6 := (hbwo.cell (p := ⟨b, o + (k - 1) * 7 + 6, none⟩) hbl0).trans (hcell 6 _ rfl)
      rw [Nat.add_zero] at l0
      unfold vO at call
      rw [ea, eq] at call
      have CALL := Lib.hid call
      have EQ := Lib.hid eq
      clear call hcell hobs hpa hpa' ea eq
      have hp0 : (0 : Int) ≤ (L : Int) - 1 - (i : Int) := by omega
      have hp1 : (L : Int) - 1 - (i : Int) < L := by omega
      have hp2 : ((L : Int) - 1 - (i : Int)).toNat = k - 1 := by omega
      have hp3 : (i : Int) < L := by omega
      have hp6 : (i : Int) ≤ (L : Int) - 1 := by omega
      have hp4 : IntKind.i64.wrap ((L : Int) - 1) = (L : Int) - 1 := IntWalk.i64_in _ (by omega)
      have hp5 : IntKind.i64.wrap ((L : Int) - 1 - (i : Int)) = (L : Int) - 1 - (i : Int) := IntWalk.i64_in _ (by omega)
      have hkL' : 0 < k ∧ i + k ≤ L ∧ L ≤ i + k := by omega
      clear hkL
      go_wp2_with fail
      go_still_tail 9, (by kernel_rfl)
      change wpList _ _ _ _ _ wo.drew
      have hbd : Below wo.heap.size wo wo.drew := (Below.refl _ _).drew
      generalize wo.drew = wd at hbd ⊢
      clear l0 l1 l2 l3 l4 l5 l6 m0 m1 m2 m3 m4 m5 m6
      go_wp2_with fail
      refine (CALL.out wd hbd).mono ?_
      rintro e w3 ⟨p3, rfl, hp3, hb3⟩
      have h34 := hb3.size
      have h45 := hbd.size
      have hbe := hbd.trans (hb3.mono hbd.size)
      have hh3 := Lib.hid ((hbe.block g hgl).trans HH.out)
      go_wp2_with (refine storeV (w1 := w3) rfl (.tmp 3) (.tmp 20) rfl g _ _ rfl rfl hp3 _ _ hh3.out (by simp [cellsO_length]) ?_)
      go_roundw
      case rel =>
        refine ⟨i + 1, by omega, by go_num, ⟨p3, t, ?_, ?_, below_setRowO (hbl.trans (hbe.mono (by omega))) (Nat.le_refl _) _⟩⟩
        · rw [show L - (i + 1) = k - 1 from by omega, hld.out, show k - 1 + 1 = k from by omega]
          exact setRow_heap _ _ _ _ _ _ hh3.out
        · rw [show L - (i + 1) = k - 1 from by omega, hld.out, show k - 1 + 1 = k from by omega]
          refine (hp3.setRow g (fun h => ?_) _).more (fun b h => ?_)
          · rcases h with (h | ⟨h, _⟩) | ⟨h, _⟩
            · have := hS g h; omega
            · omega
            · omega
          · rw [size_setRow]
            rcases h with (h | ⟨h, h2⟩) | ⟨h, h2⟩
            · exact .inl h
            · exact .inr ⟨h, by omega⟩
            · exact .inr ⟨by omega, h2⟩
      case measure => simp [intOf]; omega
    · have hkz : k = 0 := by omega
      subst hkz
      have hn : ¬ (i : Int) < L := by omega
      clear hkL
      have hh3 := Lib.hid ((hbl.block w.heap.size (by omega)).trans HGW.out)
      have ev := Lib.hid (show Value.agg #[y0, y1, y2, y3, y4, y5, q] = vO (Ob.list (l.drop 0)) q from by unfold vO; rw [eq])
      have HQ := Lib.hid hq
      have hbx := Lib.hid hbwo
      clear eq hq hbl hbwo
      go_wp2_with (refine storeV (w1 := wo) rfl (.tmp 2) (.tmp 22) rfl w.heap.size _ _ rfl ev.out HQ.out _ _ hh3.out rfl ?_)
      exact retV rfl rfl hh3.out HQ.out (fun h => by
        rcases h with h | ⟨h, _⟩
        · have := hS _ h; omega
        · omega) (fun b hb => by
        rcases hb with hb | ⟨h1, h2⟩
        · exact .inl hb
        · exact .inr ⟨by omega, h2⟩) (Nat.le_refl _) hbx.out
end Go.Proofs.YtfnkmgipjemkdaaDoor
