/- The reference's minus. -/
import Derived.Test.YtclniebhgfodfaaDoorRef2
namespace Go.Proofs.YtclniebhgfodfaaDoor
open Go Go.RowKit
set_option linter.unusedVariables false

set_option maxHeartbeats 2000000 in
theorem minusR (A A' : Option Addr) (n m a b c d : Nat) (w : World) (ha : LenIs n a) (hb : LenIs m b) (h : Reads w w.heap.size .i64 A (digs n)) (h' : Reads w w.heap.size .i64 A' (digs m)) (h9 : a ≤ 10000000000) (h9' : b ≤ 10000000000) (hle : m ≤ n) :
    Calls Tryd.prog 51 #[.slice A a c, .slice A' b d] w (RetF .i64 w (n - m)) := by
  obtain ⟨i0, hi, hz0, hz1, hz2⟩ := info_parts infoI
  replace hi := Lib.hid hi
  replace hz0 := Lib.hid hz0
  replace hz1 := Lib.hid hz1
  replace hz2 := Lib.hid hz2
  have hba : b ≤ a := by have := digs_length_mono hle; unfold LenIs at ha hb; omega
  go_enter Tryd.func51, Tryd.ntmps51
  go_wp2
  go_loopw [5, 6, 7] (fun u5 u6 u7 wr => ∃ (k : Nat) (q : Int) (zs : List Nat), k ≤ a ∧ u7 = .int .i64 k ∧ u6 = .int .i64 q ∧ 0 ≤ q ∧ q ≤ 1 ∧ Hid (MInv (digs n) (digs m) zs k q) ∧ Hid (Own wr w.heap.size u5 zs) ∧ Hid (Below w.heap.size w wr)) (fun _ _ u7 _ => a - (intOf u7).toNat)
  case atStart => exact ⟨0, 0, [], by omega, rfl, rfl, by omega, by omega, MInv.start _ _, Own.nil_ _ _, Below.refl _ _⟩
  case round =>
    obtain ⟨k, q, zs, hkM, rfl, rfl, hq0, hq1, hinv, hown, hbel⟩ := hrel
    have x0 := dg_nonneg (digs n) k
    have x1 := dg_lt (allDig_digs n) k
    have y0 := dg_nonneg (digs m) k
    have y1 := dg_lt (allDig_digs m) k
    have hBs : w.heap.size ≤ wr.heap.size := hbel.out.size
    have hzl : Hid (zs.length = k) := hinv.out.2.1
    by_cases hka : k < a
    · obtain ⟨b1, o1, rfl, hB1, hcell1⟩ := (h.below hbel.out) (by unfold LenIs at ha; omega)
      replace hcell1 := hcell1 k (by unfold LenIs at ha; omega)
      have d1 : decide (k < a) = true := by simpa using hka
      by_cases hkb : k < b
      · obtain ⟨b2, o2, rfl, hB2, hcell2⟩ := (h'.below hbel.out) (by unfold LenIs at hb; omega)
        replace hcell2 := hcell2 k (by unfold LenIs at hb; omega)
        have d2 : decide (k < b) = true := by simpa using hkb
        by_cases hneg : dg (digs n) k - q - dg (digs m) k < 0
        · have _hh : True := trivial
          have m0 : 0 ≤ (dg (digs n) k - q - dg (digs m) k + 10) := by omega
          have m1 : (dg (digs n) k - q - dg (digs m) k + 10) < 10 := by omega
          have hstep := Lib.hid (hinv.out.step (q' := 1) (z := dg (digs n) k - q - dg (digs m) k + 10) m0 m1 (dg (digs n) k) (dg (digs m) k) rfl (rfl) (by omega))
          have hnew := Lib.hid (cell_one_new wr (.int .i64 (dg (digs n) k - q - dg (digs m) k + 10)) 3)
          go_wp2_with (at_builtin; refine wpList_append_own _ rfl (.tmp 35) (.tmp 37) 40 rfl w.heap.size 3 i0 (.int .i64 0) 1 8 Tryd.underlying40 hi.out hz0.out hz1.out hz2.out rfl (by decide) u5 zs.length (ci zs) rfl ((Own.row hown.out).alloc _) ⟨wr.heap.size, 0, none⟩ 1 1 [.int .i64 (dg (digs n) k - q - dg (digs m) k + 10)] rfl rfl hnew.out (one_cells1 _ _) ?c2 ?c3 ?c4 ?_)
          case c2 => have := hzl.out; unfold maxLen; omega
          case c3 => have := hzl.out; omega
          case c4 => first | omega | (simp; omega)
          intro v1 w1 hown1 hg1 _
          have hown2 := Lib.hid (own_next (v := u5) (w := wr) hown1 rfl m0)
          have hbel2 := Lib.hid (below_next hbel.out hBs hown.out hg1)
          clear hown1 hg1 hown hbel hnew
          go_wp2
          go_roundw
          case rel => exact ⟨k + 1, 1, _, by omega, by go_num, rfl, by omega, by omega, hstep, hown2, hbel2⟩
          case measure => simp [intOf]; omega
        · have _hh : True := trivial
          have m0 : 0 ≤ (dg (digs n) k - q - dg (digs m) k) := by omega
          have m1 : (dg (digs n) k - q - dg (digs m) k) < 10 := by omega
          have hstep := Lib.hid (hinv.out.step (q' := 0) (z := dg (digs n) k - q - dg (digs m) k) m0 m1 (dg (digs n) k) (dg (digs m) k) rfl (rfl) (by omega))
          have hnew := Lib.hid (cell_one_new wr (.int .i64 (dg (digs n) k - q - dg (digs m) k)) 3)
          go_wp2_with (at_builtin; refine wpList_append_own _ rfl (.tmp 35) (.tmp 37) 40 rfl w.heap.size 3 i0 (.int .i64 0) 1 8 Tryd.underlying40 hi.out hz0.out hz1.out hz2.out rfl (by decide) u5 zs.length (ci zs) rfl ((Own.row hown.out).alloc _) ⟨wr.heap.size, 0, none⟩ 1 1 [.int .i64 (dg (digs n) k - q - dg (digs m) k)] rfl rfl hnew.out (one_cells1 _ _) ?c2 ?c3 ?c4 ?_)
          case c2 => have := hzl.out; unfold maxLen; omega
          case c3 => have := hzl.out; omega
          case c4 => first | omega | (simp; omega)
          intro v1 w1 hown1 hg1 _
          have hown2 := Lib.hid (own_next (v := u5) (w := wr) hown1 rfl m0)
          have hbel2 := Lib.hid (below_next hbel.out hBs hown.out hg1)
          clear hown1 hg1 hown hbel hnew
          go_wp2
          go_roundw
          case rel => exact ⟨k + 1, 0, _, by omega, by go_num, rfl, by omega, by omega, hstep, hown2, hbel2⟩
          case measure => simp [intOf]; omega
      · have d2 : decide (k < b) = false := by simpa using hkb
        have z2 : Hid (dg (digs m) k = 0) := dg_out (by unfold LenIs at hb; omega)
        by_cases hneg : dg (digs n) k - q < 0
        · have _hh : True := trivial
          have m0 : 0 ≤ (dg (digs n) k - q + 10) := by omega
          have m1 : (dg (digs n) k - q + 10) < 10 := by omega
          have hstep := Lib.hid (hinv.out.step (q' := 1) (z := dg (digs n) k - q + 10) m0 m1 (dg (digs n) k) (0) rfl (z2.out.symm) (by omega))
          have hnew := Lib.hid (cell_one_new wr (.int .i64 (dg (digs n) k - q + 10)) 3)
          go_wp2_with (at_builtin; refine wpList_append_own _ rfl (.tmp 35) (.tmp 37) 40 rfl w.heap.size 3 i0 (.int .i64 0) 1 8 Tryd.underlying40 hi.out hz0.out hz1.out hz2.out rfl (by decide) u5 zs.length (ci zs) rfl ((Own.row hown.out).alloc _) ⟨wr.heap.size, 0, none⟩ 1 1 [.int .i64 (dg (digs n) k - q + 10)] rfl rfl hnew.out (one_cells1 _ _) ?c2 ?c3 ?c4 ?_)
          case c2 => have := hzl.out; unfold maxLen; omega
          case c3 => have := hzl.out; omega
          case c4 => first | omega | (simp; omega)
          intro v1 w1 hown1 hg1 _
          have hown2 := Lib.hid (own_next (v := u5) (w := wr) hown1 rfl m0)
          have hbel2 := Lib.hid (below_next hbel.out hBs hown.out hg1)
          clear hown1 hg1 hown hbel hnew
          go_wp2
          go_roundw
          case rel => exact ⟨k + 1, 1, _, by omega, by go_num, rfl, by omega, by omega, hstep, hown2, hbel2⟩
          case measure => simp [intOf]; omega
        · have _hh : True := trivial
          have m0 : 0 ≤ (dg (digs n) k - q) := by omega
          have m1 : (dg (digs n) k - q) < 10 := by omega
          have hstep := Lib.hid (hinv.out.step (q' := 0) (z := dg (digs n) k - q) m0 m1 (dg (digs n) k) (0) rfl (z2.out.symm) (by omega))
          have hnew := Lib.hid (cell_one_new wr (.int .i64 (dg (digs n) k - q)) 3)
          go_wp2_with (at_builtin; refine wpList_append_own _ rfl (.tmp 35) (.tmp 37) 40 rfl w.heap.size 3 i0 (.int .i64 0) 1 8 Tryd.underlying40 hi.out hz0.out hz1.out hz2.out rfl (by decide) u5 zs.length (ci zs) rfl ((Own.row hown.out).alloc _) ⟨wr.heap.size, 0, none⟩ 1 1 [.int .i64 (dg (digs n) k - q)] rfl rfl hnew.out (one_cells1 _ _) ?c2 ?c3 ?c4 ?_)
          case c2 => have := hzl.out; unfold maxLen; omega
          case c3 => have := hzl.out; omega
          case c4 => first | omega | (simp; omega)
          intro v1 w1 hown1 hg1 _
          have hown2 := Lib.hid (own_next (v := u5) (w := wr) hown1 rfl m0)
          have hbel2 := Lib.hid (below_next hbel.out hBs hown.out hg1)
          clear hown1 hg1 hown hbel hnew
          go_wp2
          go_roundw
          case rel => exact ⟨k + 1, 0, _, by omega, by go_num, rfl, by omega, by omega, hstep, hown2, hbel2⟩
          case measure => simp [intOf]; omega
    · obtain rfl : k = a := by omega
      have hfin := hinv.out.done ha (by unfold LenIs at hb; omega) hq0 hq1 (by rw [ofD_digs, ofD_digs]; exact hle)
      rw [ofD_digs, ofD_digs] at hfin
      replace hfin := Lib.hid hfin
      obtain ⟨A2, c2, rfl, hc2, hR2, hF2⟩ := hown.out.formF
      replace hR2 := Lib.hid hR2
      go_wp2_with fail
      refine (trimR A2 zs (n - m) _ c2 _ _ hfin.out.2.2 rfl hR2.out hfin.out.1 hc2 (by have := hfin.out.2.1; omega)).mono ?_
      rintro e w3 ⟨rfl, rfl⟩
      go_wp2
      go_ret
      exact ⟨_, _, rfl, Nat.le_trans (digs_length_le (by have := ofD_lt hfin.out.1; rwa [hfin.out.2.2] at this)) hc2, hR2.out.of_digs hfin.out.1 hfin.out.2.2, hbel.out, hF2⟩

end Go.Proofs.YtclniebhgfodfaaDoor
