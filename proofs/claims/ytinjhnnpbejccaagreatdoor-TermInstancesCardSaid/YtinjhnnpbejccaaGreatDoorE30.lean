import Derived.Test.YtinjhnnpbejccaaGreatDoorCl
import Derived.Test.YtinjhnnpbejccaaGreatDoorE28
import Derived.Test.YtinjhnnpbejccaaGreatDoorE29
import Derived.Deep.Upon
import Derived.Test.YtinjhnnpbejccaaGreatDoorE19
namespace Go.Proofs.YtinjhnnpbejccaaGreatDoor
open Go Go.RowKit
set_option linter.unusedVariables false
set_option maxHeartbeats 32000000
set_option maxRecDepth 100000


theorem fewAllO (l : List Rw) (A : Option Addr) (c : Nat) (m : Int) (w : World) (S : Nat → Prop) (hS : In S w) (hc : l.length ≤ c) (hcm : c ≤ maxLen) (hm : 0 ≤ m) (hm' : m ≤ 1000)
 (hA : 0 < l.length → ∃ b o, A = some ⟨b, o, none⟩ ∧ S b ∧ RawsAt w S b o l) :
 Calls Tryz.prog 13 #[.slice A l.length c, .int .i64 m] w (fun e w' => ∃ t, e = .returned (.bool t) ∧ Below w.heap.size w w' ∧ (t = true → l.length ≤ 8 ∧ ∀ i (hi : i < l.length), few l[i] m = true)) := by
 have HS := qh9 hS
 have HA := qh9 hA
 clear hS hA
 have HF : Hid (∀ i (hi : i < l.length) cs w', RawAt w' S l[i] cs → In S w' → Calls Tryz.prog 14 #[.agg cs.toArray, .int .i64 m] w' (fun e w'' => e = .returned (.bool (few l[i] m)) ∧ Below w'.heap.size w' w'')) := fun i hi cs w' h hs => fewO l[i] cs m w' S hs h hm hm'
 have HE1 : Hid (∀ w', Below w.heap.size w w' → ∃ t, Ending.returned (.bool false) = .returned (.bool t) ∧ Below w.heap.size w w' ∧ (t = true → l.length ≤ 8 ∧ ∀ i (hi : i < l.length), few l[i] m = true)) := fun w' h => ⟨false, rfl, h, fun h => by cases h⟩
 have HE2 : Hid (∀ w', Below w.heap.size w w' → l.length ≤ 8 → (∀ i (hi : i < l.length), few l[i] m = true) → ∃ t, Ending.returned (.bool true) = .returned (.bool t) ∧ Below w.heap.size w w' ∧ (t = true → l.length ≤ 8 ∧ ∀ i (hi : i < l.length), few l[i] m = true)) := fun w' h h1 h2 => ⟨true, rfl, h, fun _ => ⟨h1, h2⟩⟩
 generalize hP : (fun (e : Ending) (w' : World) => ∃ t, e = .returned (.bool t) ∧ Below w.heap.size w w' ∧ (t = true → l.length ≤ 8 ∧ ∀ i (hi : i < l.length), few l[i] m = true)) = P
 have E1 : Hid (∀ w', Below w.heap.size w w' → P (.returned (.bool false)) w') := by subst hP; exact HE1
 have E2 : Hid (∀ w', Below w.heap.size w w' → l.length ≤ 8 → (∀ i (hi : i < l.length), few l[i] m = true) → P (.returned (.bool true)) w') := by subst hP; exact HE2
 clear hP HE1 HE2
 obtain ⟨L, hL⟩ : ∃ L, l.length = L := ⟨_, rfl⟩
 have HL := qh9 hL
 rw [hL] at hc ⊢
 clear hL
 unfold maxLen at hcm
 by_cases hbig : 8 < L
 · go_enter Tryz.func13, Tryz.ntmps13
   go_wp2
   exact E1.out _ (Below.refl _ _)
 · have hL8 : L ≤ 8 := by omega
   clear hbig
   go_enter Tryz.func13, Tryz.ntmps13
   go_wp2_with fail
   have h0 : Hid (∀ j (hj : j < l.length), j < 0 → few l[j] m = true) := fun j _ h => absurd h (Nat.not_lt_zero _)
   go_loopw [5] (fun v wr => ∃ i : Nat, i ≤ L ∧ v = .int .i64 (i : Int) ∧ Hid (Below w.heap.size w wr) ∧ Hid (∀ j (hj : j < l.length), j < i → few l[j] m = true)) (fun v _ => L - (intOf v).toNat)
   case atStart => exact ⟨0, Nat.zero_le _, rfl, Below.refl _ _, h0⟩
   case round =>
    clear h0
    obtain ⟨i, hiL, rfl, hb, hall⟩ := hrel
    obtain ⟨wo, rfl⟩ : ∃ wo : World, wo = wr := ⟨_, rfl⟩
    by_cases hlt : i < L
    · have hil : i < l.length := by rw [HL.out]; exact hlt
      obtain ⟨b, o, rfl, hbS, hrs⟩ := HA.out (by omega)
      obtain ⟨cs, hcs, hcell⟩ := hrs.get hil
      have hcs' := hcs.below HS.out hb.out
      have ha0 : b < w.heap.size := HS.out b hbS
      obtain ⟨z0, z1, z2, z3, rfl⟩ : ∃ z0 z1 z2 z3, cs = [z0, z1, z2, z3] := by
       generalize l[i] = r at hcs
       cases r with
       | mk k n s l => unfold RawAt at hcs; obtain ⟨A, c, e, _⟩ := hcs; exact ⟨_, _, _, _, e⟩
      have l0 := (hb.out.cell (p := ⟨b, o + i * 4 + 0, none⟩) ha0).trans (hcell 0 z0 rfl)
      have l1 := (hb.out.cell (p := ⟨b, o + i * 4 + 1, none⟩) ha0).trans (hcell 1 z1 rfl)
      have l2 := (hb.out.cell (p := ⟨b, o + i * 4 + 2, none⟩) ha0).trans (hcell 2 z2 rfl)
      have l3 := (hb.out.cell (p := ⟨b, o + i * 4 + 3, none⟩) ha0).trans (hcell 3 z3 rfl)
      rw [Nat.add_zero] at l0
      have call := qh9 (HF.out i hil [z0, z1, z2, z3] wo hcs' (HS.out.later hb.out.size))
      have hnext : Hid (few l[i] m = true → ∀ j (hj : j < l.length), j < i + 1 → few l[j] m = true) := fun hf j hj hji => by
       by_cases e : j = i
       · subst e; exact hf
       · exact hall.out j hj (by omega)
      clear hcell hcs hcs' hrs
      generalize few l[i] m = f at call hnext
      go_wp2_with fail
      refine call.out.mono ?_
      rintro e w3 ⟨rfl, hb3⟩
      have hb4 := qc9 hb hb3
      clear l0 l1 l2 l3 hb3 call hb hall
      cases f with
      | false =>
       clear hnext
       go_wp2
       exact E1.out _ hb4.out
      | true =>
       have hn2 := qh9 (hnext.out (by simp))
       clear hnext
       go_wp2
       go_roundw
       case rel => exact ⟨i + 1, by omega, by go_num, hb4, hn2⟩
       case measure => simp [intOf]; omega
    · have hn : ¬ (i : Int) < L := by omega
      have HR := qh9 (E2.out wo hb.out (by rw [HL.out]; exact hL8) (fun j hj => hall.out j hj (by have := HL.out; omega)))
      clear hb hall hlt
      go_wp2
      exact HR.out
end Go.Proofs.YtinjhnnpbejccaaGreatDoor
