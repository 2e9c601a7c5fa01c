import Derived.Test.YtinjhnnpbejccaaGreatDoorAl
import Derived.Test.YtinjhnnpbejccaaGreatDoorG6
import Derived.Test.YtinjhnnpbejccaaGreatDoorG5
import Derived.Deep.RegionHeld3
import Derived.Test.YtinjhnnpbejccaaGreatDoorG4
import Derived.Deep.QuietTactic
import Derived.BigQuiet
namespace Go.Proofs.YtinjhnnpbejccaaGreatDoor
open Go Go.RowKit
set_option linter.unusedVariables false
set_option maxHeartbeats 32000000
set_option maxRecDepth 100000
def notInt : Value → Bool
 | .int _ _ => false
 | _ => true
theorem mulNat_any (A A' : Option Addr) (n m a b c d : Nat) (w : World) (ha : LenIs n a) (hb : LenIs m b) (h : Reads w w.heap.size .u8 A (digs n)) (h' : Reads w w.heap.size .u8 A' (digs m)) (h9 : a ≤ 1000000000) (h9' : b ≤ 1000000000) :
 Calls Tryz.prog 204 #[.slice A a c, .slice A' b d] w (RetD .u8 w (n * m)) := by
 have hmk := make8 (a + b) ((a : Int) + b) rfl (by omega)
 go_enter Tryz.func204, Tryz.ntmps204
 go_wp2
 clear hmk
 go_loopw [18] (fun v wr => ∃ (i : Nat) (cs : List Nat), i ≤ a ∧ v = .int .i64 i ∧ Hid (MulInv (a + b) (digs n) (digs m) cs i 0 0) ∧ Row wr w.heap.size 5 .u8 cs ∧ Below w.heap.size w wr) (fun v _ => a - (intOf v).toNat)
 case atStart => exact ⟨0, zeros (a + b), Nat.zero_le _, rfl, MulInv.start _ _ _, Row.new _ _ _ _, (Below.refl _ _).alloc (Nat.le_refl _) _⟩
 case round =>
  obtain ⟨i, cs, hi, rfl, hinv, hrow, hbel⟩ := hrel
  by_cases hia : i < a
  · obtain ⟨wo, rfl⟩ : ∃ wo : World, wo = wr := ⟨_, rfl⟩
    have x0 := dg_nonneg (digs n) i
    have x1 := dg_lt (allDig_digs n) i
    go_wp2
    go_loopw [7, 23] (fun u v wr => ∃ (j : Nat) (q : Int) (cs : List Nat), j ≤ b ∧ v = .int .i64 j ∧ u = .int .u8 q ∧ 0 ≤ q ∧ q ≤ 9 ∧ Hid (MulInv (a + b) (digs n) (digs m) cs i j q) ∧ Row wr w.heap.size 5 .u8 cs ∧ Below w.heap.size w wr) (fun _ v _ => b - (intOf v).toNat)
    case atStart => exact ⟨0, 0, cs, Nat.zero_le _, rfl, rfl, by omega, by omega, hinv, hrow, hbel⟩
    case round =>
     clear hinv hrow hbel
     obtain ⟨j, q, cs, hj, rfl, rfl, hq0, hq1, hinv, hrow, hbel⟩ := hrel
     have hlen : Hid (cs.length = a + b) := hinv.out.2.1
     by_cases hjb : j < b
     · obtain ⟨b1, o1, rfl, hB1, hcell1⟩ := (h.below hbel) (by unfold LenIs at ha; omega)
       replace hcell1 := hcell1 i (by unfold LenIs at ha; omega)
       obtain ⟨b2, o2, rfl, hB2, hcell2⟩ := (h'.below hbel) (by unfold LenIs at hb; omega)
       replace hcell2 := hcell2 j (by unfold LenIs at hb; omega)
       have hst := hrow.cell (i + j) (by have := hlen.out; omega)
       have hfz := hrow.frozen (i + j)
       have y0 := dg_nonneg (digs m) j
       have y1 := dg_lt (allDig_digs m) j
       have z0 := dg_nonneg cs (i + j)
       have z1 := dg_lt hinv.out.1 (i + j)
       have p0 : 0 ≤ dg (digs n) i * dg (digs m) j := Int.mul_nonneg x0 y0
       have p1 : dg (digs n) i * dg (digs m) j ≤ 81 := Int.le_trans (Int.mul_le_mul (c := 9) (d := 9) (by omega) (by omega) y0 (by omega)) (by decide)
       have hstep := qh9 (hinv.out.step (by unfold LenIs at ha hb; omega) (by unfold LenIs at ha; omega) (by unfold LenIs at hb; omega) hq0 p0)
       have n0 : 0 ≤ (dg cs (i + j) + dg (digs n) i * dg (digs m) j + q) / 10 := by omega
       have n1 : (dg cs (i + j) + dg (digs n) i * dg (digs m) j + q) / 10 ≤ 9 := by omega
       have hrow2 := hrow.set_ (i + j) ((dg cs (i + j) + dg (digs n) i * dg (digs m) j + q) % 10).toNat ((dg cs (i + j) + dg (digs n) i * dg (digs m) j + q) % 10) (Int.toNat_of_nonneg (Int.emod_nonneg _ (by decide))).symm
       have hbel2 := hbel.setCell (p := ⟨w.heap.size, i + j, none⟩) (Nat.le_refl _) (.int .u8 ((dg cs (i + j) + dg (digs n) i * dg (digs m) j + q) % 10))
       clear hinv hrow hbel h h'
       replace hrow2 := qh9 hrow2
       replace hbel2 := qh9 hbel2
       go_wp2
       go_quiet (fail)
       go_wp2
       go_roundw
       case rel => exact ⟨j + 1, _, _, by omega, by go_num, rfl, n0, n1, hstep, hrow2.out.drewN _, below_drewN hbel2.out _⟩
       case measure => simp [intOf]; omega
     · obtain rfl : j = b := by omega
       have hst := hrow.cell (i + j) (by have := hlen.out; omega)
       have hfz := hrow.frozen (i + j)
       have hstep := qh9 (hinv.out.row (by unfold LenIs at ha hb; omega) hb (by unfold LenIs at ha; omega) hq0 (by omega))
       have hrow2 := hrow.set_ (i + j) q.toNat q (Int.toNat_of_nonneg hq0).symm
       have hbel2 := hbel.setCell (p := ⟨w.heap.size, i + j, none⟩) (Nat.le_refl _) (.int .u8 q)
       clear hinv hrow hbel h h'
       replace hrow2 := qh9 hrow2
       replace hbel2 := qh9 hbel2
       go_wp2
       go_roundw
       case rel => exact ⟨i + 1, _, by omega, by go_num, hstep, hrow2.out, hbel2.out⟩
       case measure => simp [intOf]; omega
  · obtain rfl : i = a := by omega
    have hfin := qh9 (hinv.out.done ha rfl)
    have hlen : Hid (cs.length = i + b) := hinv.out.2.1
    have hlt := hrow.lt
    clear hinv h h'
    replace hrow := qh9 hrow
    replace hbel := qh9 hbel
    go_wp2_with fail
    refine (trim_any _ cs (n * m) (i + b) (i + b) _ _ (by rw [hfin.out.2, ofD_digs, ofD_digs]) hlen.out (hrow.out.reads hlt) hfin.out.1 (by omega) (by omega)).mono ?_
    rintro e w1 ⟨rfl, rfl⟩
    go_wp2
    go_ret
    exact ⟨_, _, rfl, Nat.le_trans (digs_length_le (k := i + b) (by
     have := ofD_lt hfin.out.1
     rwa [hfin.out.2, ofD_digs, ofD_digs, hlen.out] at this)) (Nat.le_refl _), Reads.of_digs (hrow.out.reads hlt) hfin.out.1 (by rw [hfin.out.2, ofD_digs, ofD_digs]), hbel.out⟩
end Go.Proofs.YtinjhnnpbejccaaGreatDoor
