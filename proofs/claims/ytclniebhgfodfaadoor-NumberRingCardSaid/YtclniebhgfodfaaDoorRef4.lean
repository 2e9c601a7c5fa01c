/- The reference's times. -/
import Derived.Test.YtclniebhgfodfaaDoorRef3
import Derived.Deep.OwnRows
import Derived.Deep.QuietTactic
import Derived.BigQuiet
namespace Go.Proofs.YtclniebhgfodfaaDoor
open Go Go.RowKit
set_option linter.unusedVariables false

theorem make64 (n : Nat) (x : Int) (hx : x = (n : Int)) (hn : n ≤ 10000000000) (w : World) :
    (Instr.makeSlice 40 (.int .i64 x) (.int .i64 x)).run Tryd.prog w = .ok (.slice (some ⟨w.heap.size, 0, none⟩) n n) (w.alloc (.cells (rowOf .i64 (zeros n)) 3)) := by
  subst hx
  rw [run_make_row' (P := Tryd.prog) 40 3 (.int .i64 0) 8 Tryd.underlying40 (by kernel_rfl) rfl .i64 .i64 n (by omega) (by omega) w]
  congr 3
  simp [madeCells, rowOf, zeros, List.map_replicate]
  apply Array.ext
  · simp
  · intro i h1 h2
    simp [Nat.mod_one]

/-- Inside a row of the product: j columns are done, or the row is finished. -/
def TInv (N : Nat) (x y cs : List Nat) (i b j : Nat) (q : Int) : Prop :=
  (j ≤ b ∧ MulInv N x y cs i j q) ∨ (j = b + 1 ∧ q = 0 ∧ MulInv N x y cs (i + 1) 0 0)

theorem MulInv.row0 {N : Nat} {a b cs : List Nat} {i lb : Nat} (h : MulInv N a b cs i lb 0) (hN : a.length + b.length ≤ N) (hlb : b.length = lb) (hi : i < a.length) : MulInv N a b cs (i + 1) 0 0 := by
  have h1 := h.row hN hlb hi (Int.le_refl _) (by decide)
  have hz : cs.getD (i + lb) 0 = 0 := h.2.2.2 _ (by omega)
  have e : cs.set (i + lb) (0 : Int).toNat = cs := by
    apply List.ext_getElem?
    intro j
    rw [List.getElem?_set]
    by_cases hj : i + lb = j
    · subst hj
      rw [if_pos rfl]
      have hl : i + lb < cs.length := by rw [h.2.1]; omega
      rw [if_pos hl, List.getElem?_eq_getElem hl]
      rw [List.getD_eq_getElem?_getD, List.getElem?_eq_getElem hl] at hz
      simpa using hz.symm
    · rw [if_neg hj]
  rwa [e] at h1

set_option maxHeartbeats 2000000 in
theorem timesR (A A' : Option Addr) (n m a b c d : Nat) (w : World) (ha : LenIs n a) (hb : LenIs m b) (h : Reads w w.heap.size .i64 A (digs n)) (h' : Reads w w.heap.size .i64 A' (digs m)) (h9 : a ≤ 1000000000) (h9' : b ≤ 1000000000) :
    Calls Tryd.prog 53 #[.slice A a c, .slice A' b d] w (RetD .i64 w (n * m)) := by
  have hmk := make64 (a + b + 1) ((a : Int) + b + 1) (by omega) (by omega)
  have hN : (digs n).length + (digs m).length ≤ a + b + 1 := by unfold LenIs at ha hb; omega
  go_enter Tryd.func53, Tryd.ntmps53
  go_wp2
  clear hmk
  go_loopw [6] (fun v wr => ∃ (i : Nat) (cs : List Nat), i ≤ a ∧ v = .int .i64 i ∧ Hid (MulInv (a + b + 1) (digs n) (digs m) cs i 0 0) ∧ Row wr w.heap.size 3 .i64 cs ∧ Below w.heap.size w wr) (fun v _ => a - (intOf v).toNat)
  case atStart => exact ⟨0, zeros (a + b + 1), Nat.zero_le _, rfl, MulInv.start _ _ _, Row.new _ _ _ _, (Below.refl _ _).alloc (Nat.le_refl _) _⟩
  case round =>
    obtain ⟨i, cs, hi, rfl, hinv, hrow, hbel⟩ := hrel
    by_cases hia : i < a
    · obtain ⟨wo, rfl⟩ : ∃ wo : World, wo = wr := ⟨_, rfl⟩
      have x0 := dg_nonneg (digs n) i
      have x1 := dg_lt (allDig_digs n) i
      go_wp2
      go_loopw [7, 8] (fun u v wr => ∃ (j : Nat) (q : Int) (cs : List Nat), v = .int .i64 j ∧ u = .int .i64 q ∧ 0 ≤ q ∧ q ≤ 9 ∧ Hid (TInv (a + b + 1) (digs n) (digs m) cs i b j q) ∧ Row wr w.heap.size 3 .i64 cs ∧ Below w.heap.size w wr) (fun _ v _ => b + 2 - (intOf v).toNat)
      case atStart => exact ⟨0, 0, cs, rfl, rfl, by omega, by omega, .inl ⟨Nat.zero_le _, hinv.out⟩, hrow, hbel⟩
      case round =>
        clear hinv hrow hbel
        obtain ⟨j, q, cs, rfl, rfl, hq0, hq1, hti, hrow, hbel⟩ := hrel
        by_cases hjb : j < b
        · have hinv : MulInv (a + b + 1) (digs n) (digs m) cs i j q := by
            rcases hti.out with h1 | h1
            · exact h1.2
            · omega
          have hlen : Hid (cs.length = a + b + 1) := hinv.2.1
          obtain ⟨b1, o1, rfl, hB1, hcell1⟩ := (h.below hbel) (by unfold LenIs at ha; omega)
          replace hcell1 := hcell1 i (by unfold LenIs at ha; omega)
          obtain ⟨b2, o2, rfl, hB2, hcell2⟩ := (h'.below hbel) (by unfold LenIs at hb; omega)
          replace hcell2 := hcell2 j (by unfold LenIs at hb; omega)
          have hst := hrow.cell (i + j) (by have := hlen.out; omega)
          have hfz := hrow.frozen (i + j)
          have y0 := dg_nonneg (digs m) j
          have y1 := dg_lt (allDig_digs m) j
          have z0 := dg_nonneg cs (i + j)
          have z1 := dg_lt hinv.1 (i + j)
          have p0 : 0 ≤ dg (digs n) i * dg (digs m) j := Int.mul_nonneg x0 y0
          have p1 : dg (digs n) i * dg (digs m) j ≤ 81 := Int.le_trans (Int.mul_le_mul (c := 9) (d := 9) (by omega) (by omega) y0 (by omega)) (by decide)
          have hstep := hinv.step hN (by unfold LenIs at ha; omega) (by unfold LenIs at hb; omega) hq0 p0
          have hcomm : dg cs (i + j) + dg (digs n) i * dg (digs m) j + q = dg cs (i + j) + q + dg (digs n) i * dg (digs m) j := by omega
          rw [hcomm] at hstep
          have hti2 : Hid (TInv (a + b + 1) (digs n) (digs m) (cs.set (i + j) ((dg cs (i + j) + q + dg (digs n) i * dg (digs m) j) % 10).toNat) i b (j + 1) ((dg cs (i + j) + q + dg (digs n) i * dg (digs m) j) / 10)) := .inl ⟨by omega, hstep⟩
          have n0 : 0 ≤ (dg cs (i + j) + q + dg (digs n) i * dg (digs m) j) / 10 := by omega
          have n1 : (dg cs (i + j) + q + dg (digs n) i * dg (digs m) j) / 10 ≤ 9 := by omega
          have hrow2 := hrow.set_ (i + j) ((dg cs (i + j) + q + dg (digs n) i * dg (digs m) j) % 10).toNat ((dg cs (i + j) + q + dg (digs n) i * dg (digs m) j) % 10) (Int.toNat_of_nonneg (Int.emod_nonneg _ (by decide))).symm
          have hbel2 := hbel.setCell (p := ⟨w.heap.size, i + j, none⟩) (Nat.le_refl _) (.int .i64 ((dg cs (i + j) + q + dg (digs n) i * dg (digs m) j) % 10))
          have d2 : decide (j < b) = true := by simpa using hjb
          clear hinv hrow hbel h h' hti hstep hcomm
          replace hrow2 := Lib.hid hrow2
          replace hbel2 := Lib.hid hbel2
          go_wp2
          go_quiet (fail)
          go_wp2
          go_roundw
          case rel => exact ⟨j + 1, _, _, by go_num, rfl, n0, n1, hti2, hrow2.out.drewN _, below_drewN hbel2.out _⟩
          case measure => simp [intOf]; omega
        · have d2 : decide (j < b) = false := by simpa using hjb
          by_cases hq : 0 < q
          · have hinv : j = b ∧ MulInv (a + b + 1) (digs n) (digs m) cs i j q := by
              rcases hti.out with h1 | h1
              · exact ⟨by omega, h1.2⟩
              · omega
            obtain ⟨rfl, hinv⟩ := hinv
            have hlen : Hid (cs.length = a + j + 1) := hinv.2.1
            have hst := hrow.cell (i + j) (by have := hlen.out; omega)
            have hfz := hrow.frozen (i + j)
            have hz : dg cs (i + j) = 0 := by unfold dg; rw [hinv.2.2.2 _ (by unfold LenIs at hb; omega)]; rfl
            have e1 : Hid ((dg cs (i + j) + q) % 10 = q) := by show _ = _; rw [hz]; omega
            have e2 : Hid ((dg cs (i + j) + q) / 10 = 0) := by show _ = _; rw [hz]; omega
            have z0 : 0 ≤ dg cs (i + j) := by omega
            have z1 : dg cs (i + j) < 10 := by omega
            have hstep := hinv.row hN hb (by unfold LenIs at ha; omega) hq0 (by omega)
            have hti2 : Hid (TInv (a + j + 1) (digs n) (digs m) (cs.set (i + j) q.toNat) i j (j + 1) ((dg cs (i + j) + q) / 10)) := .inr ⟨rfl, e2.out, hstep⟩
            have hrow2 := hrow.set_ (i + j) q.toNat ((dg cs (i + j) + q) % 10) (by rw [e1.out]; exact (Int.toNat_of_nonneg hq0).symm)
            have hbel2 := hbel.setCell (p := ⟨w.heap.size, i + j, none⟩) (Nat.le_refl _) (.int .i64 ((dg cs (i + j) + q) % 10))
            have n0 : 0 ≤ (dg cs (i + j) + q) / 10 := by omega
            have n1 : (dg cs (i + j) + q) / 10 ≤ 9 := by omega
            clear hinv hrow hbel h h' hti hstep hz
            replace hrow2 := Lib.hid hrow2
            replace hbel2 := Lib.hid hbel2
            go_wp2
            go_roundw
            case rel => exact ⟨j + 1, _, _, by go_num, rfl, n0, n1, hti2, hrow2.out, hbel2.out⟩
            case measure => first | (simp [intOf]; omega) | simp [intOf]
          · obtain rfl : q = 0 := by omega
            have hstep : Hid (MulInv (a + b + 1) (digs n) (digs m) cs (i + 1) 0 0) := by
              rcases hti.out with h1 | h1
              · obtain rfl : j = b := by omega
                exact h1.2.row0 hN hb (by unfold LenIs at ha; omega)
              · exact h1.2.2
            replace hrow := Lib.hid hrow
            replace hbel := Lib.hid hbel
            clear h h' hti
            go_wp2
            go_roundw
            case rel => exact ⟨i + 1, _, by omega, by go_num, hstep, hrow.out, hbel.out⟩
            case measure => simp [intOf]; omega
    · obtain rfl : i = a := by omega
      have hfin := Lib.hid (hinv.out.done ha rfl)
      have hlen : Hid (cs.length = i + b + 1) := hinv.out.2.1
      have hlt := hrow.lt
      clear hinv h h'
      replace hrow := Lib.hid hrow
      replace hbel := Lib.hid hbel
      go_wp2_with fail
      refine (trimR _ cs (n * m) (i + b + 1) (i + b + 1) _ _ (by rw [hfin.out.2, ofD_digs, ofD_digs]) hlen.out (hrow.out.reads hlt) hfin.out.1 (by omega) (by omega)).mono ?_
      rintro e w1 ⟨rfl, rfl⟩
      go_wp2
      go_ret
      exact ⟨_, _, rfl, Nat.le_trans (digs_length_le (k := i + b + 1) (by
        have := ofD_lt hfin.out.1
        rwa [hfin.out.2, ofD_digs, ofD_digs, hlen.out] at this)) (Nat.le_refl _), Reads.of_digs (hrow.out.reads hlt) hfin.out.1 (by rw [hfin.out.2, ofD_digs, ofD_digs]), hbel.out⟩

end Go.Proofs.YtclniebhgfodfaaDoor
