/- number.addNaturals: the digits of the sum. -/
import Derived.Test.YtfnkmgipjemkdaaDoorArith
import Derived.Test.YtfnkmgipjemkdaaDoorTrim
import Derived.Deep.OwnRows
namespace Go.Proofs.YtfnkmgipjemkdaaDoor
open Go Go.RowKit
set_option linter.unusedVariables false

theorem make8 (n : Nat) (x : Int) (hx : x = (n : Int)) (hn : n ≤ 10000000000) (w : World) :
    (Instr.makeSlice 57 (.int .i64 x) (.int .i64 x)).run Tryd.prog w = .ok (.slice (some ⟨w.heap.size, 0, none⟩) n n) (w.alloc (.cells (rowOf .u8 (zeros n)) 5)) := by
  subst hx
  rw [run_make_row' (P := Tryd.prog) 57 5 (.int .u8 0) 1 Tryd.underlying57 (by kernel_rfl) rfl .i64 .i64 n (by omega) (by omega) w]
  congr 3
  simp [madeCells, rowOf, zeros, List.map_replicate]
  apply Array.ext
  · simp
  · intro i h1 h2
    simp [Nat.mod_one]

set_option maxHeartbeats 1000000 in
set_option maxRecDepth 100000 in
theorem addNat_ge (A A' : Option Addr) (n m a b c d : Nat) (w : World) (ha : LenIs n a) (hb : LenIs m b) (h : Reads w w.heap.size .u8 A (digs n)) (h' : Reads w w.heap.size .u8 A' (digs m)) (h9 : a ≤ 1000000000) (hba : b ≤ a) :
    Calls Tryd.prog 62 #[.slice A a c, .slice A' b d] w (RetD .u8 w (n + m)) := by
  have hmk := make8 (a + 1) ((a : Int) + 1) rfl (by omega)
  have hdec : decide (a < b) = false := by simp; omega
  go_enter Tryd.func62, Tryd.ntmps62
  go_wp2
  clear hmk
  go_loopw [6, 22] (fun u v wr => ∃ (k : Nat) (q : Int) (cs : List Nat), k ≤ a ∧ v = .int .i64 k ∧ u = .int .u8 q ∧ 0 ≤ q ∧ q ≤ 1 ∧ Hid (cs.length = a + 1) ∧ Hid (AddInv (digs n) (digs m) cs k q) ∧ Row wr w.heap.size 5 .u8 cs ∧ Below w.heap.size w wr) (fun _ v _ => a - (intOf v).toNat)
  case atStart => exact ⟨0, 0, zeros (a + 1), Nat.zero_le _, rfl, rfl, by omega, by omega, zeros_length _, AddInv.start _ _ _, Row.new _ _ _ _, (Below.refl _ _).alloc (Nat.le_refl _) _⟩
  case round =>
    obtain ⟨k, q, cs, hk, rfl, rfl, hq0, hq1, hcs, hinv, hrow, hbel⟩ := hrel
    have hgs := hrow.lt
    by_cases hka : k < a
    · obtain ⟨b1, o1, rfl, hB1, hcell1⟩ := (h.below hbel) (by unfold LenIs at ha; omega)
      replace hcell1 := hcell1 k (by unfold LenIs at ha; omega)
      have x0 := dg_nonneg (digs n) k
      have x1 := dg_lt (allDig_digs n) k
      have hst := hrow.cell k (by have := hcs.out; omega)
      have hfz := hrow.frozen k
      have hstep := Lib.hid (hinv.out.step (allDig_digs n) (allDig_digs m) hq0 hq1 (by have := hcs.out; omega))
      have hlen2 : Hid ((cs.set k ((dg (digs n) k + q + dg (digs m) k) % 10).toNat).length = a + 1) := by have := hcs.out; show _ = _; simpa using this
      have hrow2 := hrow.set_ k ((dg (digs n) k + q + dg (digs m) k) % 10).toNat ((dg (digs n) k + q + dg (digs m) k) % 10) (Int.toNat_of_nonneg (Int.emod_nonneg _ (by decide))).symm
      have hbel2 := hbel.setCell (p := ⟨w.heap.size, k, none⟩) (Nat.le_refl _) (.int .u8 ((dg (digs n) k + q + dg (digs m) k) % 10))
      have y0 := dg_nonneg (digs m) k
      have y1 := dg_lt (allDig_digs m) k
      have n0 : 0 ≤ (dg (digs n) k + q + dg (digs m) k) / 10 := by omega
      have n1 : (dg (digs n) k + q + dg (digs m) k) / 10 ≤ 1 := by omega
      by_cases hkb : k < b
      · obtain ⟨b2, o2, rfl, hB2, hcell2⟩ := (h'.below hbel) (by unfold LenIs at hb; omega)
        replace hcell2 := hcell2 k (by unfold LenIs at hb; omega)
        have hd1 : decide (k < b) = true := by simp; omega
        clear hinv hrow hbel h h'
        replace hrow2 := Lib.hid hrow2
        replace hbel2 := Lib.hid hbel2
        go_wp2
        go_roundw
        case rel => exact ⟨k + 1, _, _, by omega, by go_num, rfl, n0, n1, hlen2, hstep, hrow2.out, hbel2.out⟩
        case measure => simp [intOf]; omega
      · have e0 : dg (digs m) k = 0 := dg_out (by unfold LenIs at hb; omega)
        rw [e0, Int.add_zero] at hstep hlen2 hrow2 hbel2 n0 n1
        have hd1 : decide (k < b) = false := by simp; omega
        clear hinv hrow hbel h h' e0
        replace hrow2 := Lib.hid hrow2
        replace hbel2 := Lib.hid hbel2
        go_wp2
        go_roundw
        case rel => exact ⟨k + 1, _, _, by omega, by go_num, rfl, n0, n1, hlen2, hstep, hrow2.out, hbel2.out⟩
        case measure => simp [intOf]; omega
    · obtain rfl : k = a := by omega
      have hst := hrow.cell k (by have := hcs.out; omega)
      have hfz := hrow.frozen k
      have hfin := Lib.hid (AddInv.done (a := digs n) (b := digs m) (cs := cs) (c := q) hinv.out ha (by unfold LenIs at ha hb; omega) hcs.out hq0 hq1)
      have hlen2 : (cs.set k q.toNat).length = k + 1 := by have := hcs.out; simpa using this
      have hrow2 := hrow.set_ k q.toNat q (Int.toNat_of_nonneg hq0).symm
      have hbel2 := hbel.setCell (p := ⟨w.heap.size, k, none⟩) (Nat.le_refl _) (.int .u8 q)
      clear hinv hbel
      replace hrow2 := Lib.hid hrow2
      replace hbel2 := Lib.hid hbel2
      replace hlen2 := Lib.hid hlen2
      go_wp2_with fail
      refine (trim_any _ (cs.set k q.toNat) (n + m) (k + 1) (k + 1) _ _ (by rw [hfin.out.2, ofD_digs, ofD_digs]) hlen2.out (hrow2.out.reads hrow2.out.lt) hfin.out.1 (by omega) (by omega)).mono ?_
      rintro e w1 ⟨rfl, rfl⟩
      go_wp2
      go_ret
      exact ⟨_, _, rfl, Nat.le_trans (digs_length_le (k := k + 1) (by
        have := ofD_lt hfin.out.1
        rwa [hfin.out.2, ofD_digs, ofD_digs, hlen2.out] at this)) (Nat.le_refl _), Reads.of_digs (hrow2.out.reads hrow2.out.lt) hfin.out.1 (by rw [hfin.out.2, ofD_digs, ofD_digs]), hbel2.out⟩

set_option maxHeartbeats 1000000 in
set_option maxRecDepth 100000 in
theorem addNat_lt (A A' : Option Addr) (n m a b c d : Nat) (w : World) (ha : LenIs n a) (hb : LenIs m b) (h : Reads w w.heap.size .u8 A (digs n)) (h' : Reads w w.heap.size .u8 A' (digs m)) (h9 : a ≤ 1000000000) (hba : b < a) :
    Calls Tryd.prog 62 #[.slice A' b d, .slice A a c] w (RetD .u8 w (n + m)) := by
  have hmk := make8 (a + 1) ((a : Int) + 1) rfl (by omega)
  have hdec : decide (b < a) = true := by simp; omega
  go_enter Tryd.func62, Tryd.ntmps62
  go_wp2
  clear hmk
  go_loopw [6, 22] (fun u v wr => ∃ (k : Nat) (q : Int) (cs : List Nat), k ≤ a ∧ v = .int .i64 k ∧ u = .int .u8 q ∧ 0 ≤ q ∧ q ≤ 1 ∧ Hid (cs.length = a + 1) ∧ Hid (AddInv (digs n) (digs m) cs k q) ∧ Row wr w.heap.size 5 .u8 cs ∧ Below w.heap.size w wr) (fun _ v _ => a - (intOf v).toNat)
  case atStart => exact ⟨0, 0, zeros (a + 1), Nat.zero_le _, rfl, rfl, by omega, by omega, zeros_length _, AddInv.start _ _ _, Row.new _ _ _ _, (Below.refl _ _).alloc (Nat.le_refl _) _⟩
  case round =>
    obtain ⟨k, q, cs, hk, rfl, rfl, hq0, hq1, hcs, hinv, hrow, hbel⟩ := hrel
    have hgs := hrow.lt
    by_cases hka : k < a
    · obtain ⟨b1, o1, rfl, hB1, hcell1⟩ := (h.below hbel) (by unfold LenIs at ha; omega)
      replace hcell1 := hcell1 k (by unfold LenIs at ha; omega)
      have x0 := dg_nonneg (digs n) k
      have x1 := dg_lt (allDig_digs n) k
      have hst := hrow.cell k (by have := hcs.out; omega)
      have hfz := hrow.frozen k
      have hstep := Lib.hid (hinv.out.step (allDig_digs n) (allDig_digs m) hq0 hq1 (by have := hcs.out; omega))
      have hlen2 : Hid ((cs.set k ((dg (digs n) k + q + dg (digs m) k) % 10).toNat).length = a + 1) := by have := hcs.out; show _ = _; simpa using this
      have hrow2 := hrow.set_ k ((dg (digs n) k + q + dg (digs m) k) % 10).toNat ((dg (digs n) k + q + dg (digs m) k) % 10) (Int.toNat_of_nonneg (Int.emod_nonneg _ (by decide))).symm
      have hbel2 := hbel.setCell (p := ⟨w.heap.size, k, none⟩) (Nat.le_refl _) (.int .u8 ((dg (digs n) k + q + dg (digs m) k) % 10))
      have y0 := dg_nonneg (digs m) k
      have y1 := dg_lt (allDig_digs m) k
      have n0 : 0 ≤ (dg (digs n) k + q + dg (digs m) k) / 10 := by omega
      have n1 : (dg (digs n) k + q + dg (digs m) k) / 10 ≤ 1 := by omega
      by_cases hkb : k < b
      · obtain ⟨b2, o2, rfl, hB2, hcell2⟩ := (h'.below hbel) (by unfold LenIs at hb; omega)
        replace hcell2 := hcell2 k (by unfold LenIs at hb; omega)
        have hd1 : decide (k < b) = true := by simp; omega
        clear hinv hrow hbel h h'
        replace hrow2 := Lib.hid hrow2
        replace hbel2 := Lib.hid hbel2
        go_wp2
        go_roundw
        case rel => exact ⟨k + 1, _, _, by omega, by go_num, rfl, n0, n1, hlen2, hstep, hrow2.out, hbel2.out⟩
        case measure => simp [intOf]; omega
      · have e0 : dg (digs m) k = 0 := dg_out (by unfold LenIs at hb; omega)
        rw [e0, Int.add_zero] at hstep hlen2 hrow2 hbel2 n0 n1
        have hd1 : decide (k < b) = false := by simp; omega
        clear hinv hrow hbel h h' e0
        replace hrow2 := Lib.hid hrow2
        replace hbel2 := Lib.hid hbel2
        go_wp2
        go_roundw
        case rel => exact ⟨k + 1, _, _, by omega, by go_num, rfl, n0, n1, hlen2, hstep, hrow2.out, hbel2.out⟩
        case measure => simp [intOf]; omega
    · obtain rfl : k = a := by omega
      have hst := hrow.cell k (by have := hcs.out; omega)
      have hfz := hrow.frozen k
      have hfin := Lib.hid (AddInv.done (a := digs n) (b := digs m) (cs := cs) (c := q) hinv.out ha (by unfold LenIs at ha hb; omega) hcs.out hq0 hq1)
      have hlen2 : (cs.set k q.toNat).length = k + 1 := by have := hcs.out; simpa using this
      have hrow2 := hrow.set_ k q.toNat q (Int.toNat_of_nonneg hq0).symm
      have hbel2 := hbel.setCell (p := ⟨w.heap.size, k, none⟩) (Nat.le_refl _) (.int .u8 q)
      clear hinv hbel
      replace hrow2 := Lib.hid hrow2
      replace hbel2 := Lib.hid hbel2
      replace hlen2 := Lib.hid hlen2
      go_wp2_with fail
      refine (trim_any _ (cs.set k q.toNat) (n + m) (k + 1) (k + 1) _ _ (by rw [hfin.out.2, ofD_digs, ofD_digs]) hlen2.out (hrow2.out.reads hrow2.out.lt) hfin.out.1 (by omega) (by omega)).mono ?_
      rintro e w1 ⟨rfl, rfl⟩
      go_wp2
      go_ret
      exact ⟨_, _, rfl, Nat.le_trans (digs_length_le (k := k + 1) (by
        have := ofD_lt hfin.out.1
        rwa [hfin.out.2, ofD_digs, ofD_digs, hlen2.out] at this)) (Nat.le_refl _), Reads.of_digs (hrow2.out.reads hrow2.out.lt) hfin.out.1 (by rw [hfin.out.2, ofD_digs, ofD_digs]), hbel2.out⟩

theorem addNat_any (A A' : Option Addr) (n m a b c d : Nat) (w : World) (ha : LenIs n a) (hb : LenIs m b) (h : Reads w w.heap.size .u8 A (digs n)) (h' : Reads w w.heap.size .u8 A' (digs m)) (h9 : a ≤ 1000000000) (h9' : b ≤ 1000000000) :
    Calls Tryd.prog 62 #[.slice A a c, .slice A' b d] w (RetD .u8 w (n + m)) := by
  by_cases hab : a < b
  · rw [Nat.add_comm]; exact addNat_lt A' A m n b a d c w hb ha h' h h9' hab
  · exact addNat_ge A A' n m a b c d w ha hb h h' h9 (by omega)

end Go.Proofs.YtfnkmgipjemkdaaDoor
