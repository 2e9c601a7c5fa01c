import Derived.Test.YtinjhnnpbejccaaGreatDoorAl
import Derived.Test.YtinjhnnpbejccaaGreatDoorG5
import Derived.Test.YtinjhnnpbejccaaGreatDoorG6
import Derived.Deep.OwnRows
import Derived.Deep.QuietTactic
import Derived.BigQuiet
namespace Go.Proofs.YtinjhnnpbejccaaGreatDoor
open Go Go.RowKit
set_option linter.unusedVariables false
set_option maxHeartbeats 32000000
set_option maxRecDepth 100000
def OwnB (w : World) (B : Nat) (v : Value) (l : List UInt8) : Prop := w.ownsRow B 5 1 v l.length (cb l)
theorem OwnB.row {w : World} {B : Nat} {v : Value} {l : List UInt8} (h : OwnB w B v l) : w.ownsRow B 5 1 v l.length (cb l) := h
theorem OwnB.nil_ (w : World) (B : Nat) : OwnB w B (.slice none 0 0) [] := World.ownsRow_nil w B 5 1
theorem OwnB.of_cells {w : World} {B n : Nat} {v : Value} {l : List UInt8} (h : w.ownsRow B 5 1 v n (cb l)) : OwnB w B v l := by
 have h1 := h.1
 have hn : l.length = n := by unfold cb at h1; simpa using h1
 unfold OwnB
 rw [hn]
 exact h
theorem OwnB.form {w : World} {B : Nat} {v : Value} {l : List UInt8} (h : OwnB w B v l) (hl : l ≠ []) : ∃ g c, v = .slice (some ⟨g, 0, none⟩) l.length c := by
 rcases h.2 with ⟨rfl, h0⟩ | ⟨g, cap, cur, rfl, _⟩
 · exact absurd (List.length_eq_zero_iff.1 h0) hl
 · exact ⟨_, _, rfl⟩

theorem textR_zero (b : Bool) (A : Option Addr) (zs : List Nat) (a c : Nat) (w : World) (ha : Hid (zs.length = a)) (hd : AllDig zs) (h0 : ofD zs = 0) (h : Reads w w.heap.size .i64 A zs) (hc : a ≤ c) (h9 : a ≤ 1000000000) :
 Calls Tryz.prog 132 #[.bool b, .slice A a c] w fun e w' => e = .returned (.string (BA (signText b 0))) ∧ Below w.heap.size w w' := by
 replace h0 := qh9 h0
 go_enter Tryz.func132, Tryz.ntmps132
 go_wp2_with fail
 refine (trimR A zs 0 a c _ _ h0.out ha.out h hd hc (by omega)).mono ?_
 rintro e w' ⟨rfl, rfl⟩
 go_wp2
 go_ret
 refine ⟨?_, Below.refl _ _⟩
 cases b <;> rfl

theorem textR_pos (b : Bool) (A : Option Addr) (zs : List Nat) (n a c : Nat) (w : World) (ha : Hid (zs.length = a)) (hd : AllDig zs) (hv : Hid (ofD zs = n)) (hn : n ≠ 0) (h : Reads w w.heap.size .i64 A zs) (hc : a ≤ c) (h9 : a ≤ 1000000000) :
 Calls Tryz.prog 132 #[.bool b, .slice A a c] w fun e w' => e = .returned (.string (BA (signText b n))) ∧ Below w.heap.size w w' := by
 obtain ⟨i0, hi, hz0, hz1, hz2⟩ := info_parts info8
 replace hi := qh9 hi
 replace hz0 := qh9 hz0
 replace hz1 := qh9 hz1
 replace hz2 := qh9 hz2
 have hR : Reads w w.heap.size .i64 A (digs n) := h.of_digs hd hv.out
 have hLa : (digs n).length ≤ a := by
  have h1 := ofD_lt hd
  rw [hv.out, ha.out] at h1
  exact digs_length_le h1
 have hLp : 0 < (digs n).length := List.length_pos_iff.2 (digs_ne_nil hn)
 obtain ⟨L, hL⟩ : ∃ L, (digs n).length = L := ⟨_, rfl⟩
 have hz : ((L : Int) == 0) = false := by rw [beq_eq_false_iff_ne]; omega
 have HL : Hid ((digs n).length = L) := hL
 rw [hL] at hLa hLp
 clear hL
 replace hn := qh9 hn
 cases b
 · go_enter Tryz.func132, Tryz.ntmps132
   go_wp2_with fail
   refine (trimR A zs n a c _ _ hv.out ha.out h hd hc (by omega)).mono ?_
   rintro e w' ⟨rfl, rfl⟩
   rw [HL.out]
   go_wp2
   go_loopw [5, 6] (fun u v wr => ∃ k : Nat, k ≤ L ∧ v = .int .i64 ((k : Int) - 1) ∧ Hid (OwnB wr w.heap.size u (textAt false n (L - k))) ∧ Hid (Below w.heap.size w wr)) (fun _ v _ => (intOf v + 1).toNat)
   case atStart => exact ⟨L, Nat.le_refl _, rfl, (by rw [Nat.sub_self, textAt_zero]; exact OwnB.nil_ _ _), Below.refl _ _⟩
   case round =>
    obtain ⟨k, hkL, rfl, hown, hbel⟩ := hrel
    have hBs : w.heap.size ≤ wr.heap.size := hbel.out.size
    have hzl : Hid ((textAt false n (L - k)).length = 0 + (L - k)) := by show _ = _; rw [textAt_length false n _ (by rw [HL.out]; omega)]; simp
    by_cases hk0 : 0 < k
    · obtain ⟨b1, o1, rfl, hB1, hcell1⟩ := (hR.below hbel.out) (by rw [HL.out]; omega)
      replace hcell1 := hcell1 (k - 1) (by rw [HL.out]; omega)
      have hp0 : (0 : Int) ≤ (k : Int) - 1 := by omega
      have hp1 : (k : Int) - 1 < L := by omega
      have x0 := dg_nonneg (digs n) (k - 1)
      have x1 := dg_lt (allDig_digs n) (k - 1)
      have hnew := qh9 (cell_one_new wr (.int .u8 (48 + dg (digs n) (k - 1))) 5)
      go_wp2_with (at_builtin; refine wpList_append_own _ rfl (.tmp 23) (.tmp 30) 187 rfl w.heap.size 5 i0 (.int .u8 0) 1 1 Tryz.underlying187 hi.out hz0.out hz1.out hz2.out rfl (by decide) u5 (textAt false n (L - k)).length (cb (textAt false n (L - k))) rfl ((OwnB.row hown.out).alloc _) ⟨wr.heap.size, 0, none⟩ 1 1 [.int .u8 (48 + dg (digs n) (k - 1))] rfl rfl hnew.out (one_cells1 _ _) ?c2 ?c3 ?c4 ?_)
      case c2 => have := hzl.out; unfold maxLen; omega
      case c3 => have := hzl.out; omega
      case c4 => first | omega | (simp; omega)
      intro v1 w1 hown1 hg1 _
      have hstep := textAt_step false (n := n) (i := L - k) (by rw [HL.out]; omega)
      rw [HL.out, show L - 1 - (L - k) = k - 1 from by omega, show L - k + 1 = L - (k - 1) from by omega, Int.add_comm] at hstep
      rw [hstep] at hown1
      have hown2 := qh9 (OwnB.of_cells hown1)
      have hbel2 : Hid (Below w.heap.size w w1) := (hbel.out.alloc hBs _).grown hg1 (by simp; omega) (fun q hq => ((OwnB.row hown.out).lt q hq).1)
      clear hown1 hg1 hown hbel hnew hstep
      go_wp2
      go_roundw
      case rel => exact ⟨k - 1, by omega, by go_num, hown2, hbel2⟩
      case measure => simp [intOf]; omega
    · obtain rfl : k = 0 := by omega
      rw [Nat.sub_zero] at hown hzl
      have hte := qh9 (textAt_end false (n := n) (i := L) HL.out hn.out)
      obtain ⟨g, cc, rfl⟩ := hown.out.form (by intro e; have := hzl.out; rw [e] at this; simp at this; omega)
      have hconv := conv_back wr g cc (textAt false n L).length w.heap.size (textAt false n L) rfl hown.out
      go_wp2
      go_ret
      exact ⟨ret_string (by rw [hte.out]), hbel.out⟩
 · go_enter Tryz.func132, Tryz.ntmps132
   go_wp2_with fail
   refine (trimR A zs n a c _ _ hv.out ha.out h hd hc (by omega)).mono ?_
   rintro e w' ⟨rfl, rfl⟩
   rw [HL.out]
   have hnew0 := qh9 (cell_one_new w (.int .u8 45) 5)
   go_wp2_with (at_builtin; refine wpList_append_own _ rfl (.tmp 13) (.tmp 14) 187 rfl w.heap.size 5 i0 (.int .u8 0) 1 1 Tryz.underlying187 hi.out hz0.out hz1.out hz2.out rfl (by decide) (.slice none 0 0) 0 [] rfl ((World.ownsRow_nil w w.heap.size 5 1).alloc _) ⟨w.heap.size, 0, none⟩ 1 1 [.int .u8 45] rfl rfl hnew0.out (one_cells1 _ _) (by decide) (by decide) (by simp) ?_)
   intro v0 w0 hown0 hg0 _
   have hown00 : Hid (OwnB w0 w.heap.size v0 (textAt true n 0)) := by show OwnB _ _ _ _; rw [textAt_zero]; exact OwnB.of_cells hown0
   have hbel0 : Hid (Below w.heap.size w w0) := ((Below.refl _ _).alloc (Nat.le_refl _) _).grown hg0 (by simp) (fun q hq => by cases hq)
   clear hown0 hg0 hnew0
   go_wp2
   go_loopw [5, 6] (fun u v wr => ∃ k : Nat, k ≤ L ∧ v = .int .i64 ((k : Int) - 1) ∧ Hid (OwnB wr w.heap.size u (textAt true n (L - k))) ∧ Hid (Below w.heap.size w wr)) (fun _ v _ => (intOf v + 1).toNat)
   case atStart => exact ⟨L, Nat.le_refl _, rfl, (by rw [Nat.sub_self]; exact hown00), hbel0⟩
   case round =>
    clear hown00 hbel0
    obtain ⟨k, hkL, rfl, hown, hbel⟩ := hrel
    have hBs : w.heap.size ≤ wr.heap.size := hbel.out.size
    have hzl : Hid ((textAt true n (L - k)).length = 1 + (L - k)) := by show _ = _; rw [textAt_length true n _ (by rw [HL.out]; omega)]; simp
    by_cases hk0 : 0 < k
    · obtain ⟨b1, o1, rfl, hB1, hcell1⟩ := (hR.below hbel.out) (by rw [HL.out]; omega)
      replace hcell1 := hcell1 (k - 1) (by rw [HL.out]; omega)
      have hp0 : (0 : Int) ≤ (k : Int) - 1 := by omega
      have hp1 : (k : Int) - 1 < L := by omega
      have x0 := dg_nonneg (digs n) (k - 1)
      have x1 := dg_lt (allDig_digs n) (k - 1)
      have hnew := qh9 (cell_one_new wr (.int .u8 (48 + dg (digs n) (k - 1))) 5)
      go_wp2_with (at_builtin; refine wpList_append_own _ rfl (.tmp 23) (.tmp 30) 187 rfl w.heap.size 5 i0 (.int .u8 0) 1 1 Tryz.underlying187 hi.out hz0.out hz1.out hz2.out rfl (by decide) u5 (textAt true n (L - k)).length (cb (textAt true n (L - k))) rfl ((OwnB.row hown.out).alloc _) ⟨wr.heap.size, 0, none⟩ 1 1 [.int .u8 (48 + dg (digs n) (k - 1))] rfl rfl hnew.out (one_cells1 _ _) ?c2 ?c3 ?c4 ?_)
      case c2 => have := hzl.out; unfold maxLen; omega
      case c3 => have := hzl.out; omega
      case c4 => first | omega | (simp; omega)
      intro v1 w1 hown1 hg1 _
      have hstep := textAt_step true (n := n) (i := L - k) (by rw [HL.out]; omega)
      rw [HL.out, show L - 1 - (L - k) = k - 1 from by omega, show L - k + 1 = L - (k - 1) from by omega, Int.add_comm] at hstep
      rw [hstep] at hown1
      have hown2 := qh9 (OwnB.of_cells hown1)
      have hbel2 : Hid (Below w.heap.size w w1) := (hbel.out.alloc hBs _).grown hg1 (by simp; omega) (fun q hq => ((OwnB.row hown.out).lt q hq).1)
      clear hown1 hg1 hown hbel hnew hstep
      go_wp2
      go_roundw
      case rel => exact ⟨k - 1, by omega, by go_num, hown2, hbel2⟩
      case measure => simp [intOf]; omega
    · obtain rfl : k = 0 := by omega
      rw [Nat.sub_zero] at hown hzl
      have hte := qh9 (textAt_end true (n := n) (i := L) HL.out hn.out)
      obtain ⟨g, cc, rfl⟩ := hown.out.form (by intro e; have := hzl.out; rw [e] at this; simp at this; omega)
      have hconv := conv_back wr g cc (textAt true n L).length w.heap.size (textAt true n L) rfl hown.out
      go_wp2
      go_ret
      exact ⟨ret_string (by rw [hte.out]), hbel.out⟩

theorem textR (b : Bool) (A : Option Addr) (zs : List Nat) (c : Nat) (w : World) (hd : AllDig zs) (h : Reads w w.heap.size .i64 A zs) (hc : zs.length ≤ c) (h9 : zs.length ≤ 1000000000) :
 Calls Tryz.prog 132 #[.bool b, .slice A zs.length c] w fun e w' => e = .returned (.string (BA (signText b (ofD zs)))) ∧ Below w.heap.size w w' := by
 by_cases h0 : ofD zs = 0
 · rw [h0]; exact textR_zero b A zs _ c w rfl hd h0 h hc h9
 · exact textR_pos b A zs _ _ c w rfl hd rfl h0 h hc h9
theorem minusR (A A' : Option Addr) (n m a b c d : Nat) (w : World) (ha : LenIs n a) (hb : LenIs m b) (h : Reads w w.heap.size .i64 A (digs n)) (h' : Reads w w.heap.size .i64 A' (digs m)) (h9 : a ≤ 10000000000) (h9' : b ≤ 10000000000) (hle : m ≤ n) :
 Calls Tryz.prog 159 #[.slice A a c, .slice A' b d] w (RetF .i64 w (n - m)) := by
 obtain ⟨i0, hi, hz0, hz1, hz2⟩ := info_parts infoI
 replace hi := qh9 hi
 replace hz0 := qh9 hz0
 replace hz1 := qh9 hz1
 replace hz2 := qh9 hz2
 have hba : b ≤ a := by have := digs_length_mono hle; unfold LenIs at ha hb; omega
 go_enter Tryz.func159, Tryz.ntmps159
 go_wp2
 go_loopw [5, 6, 7] (fun u5 u6 u7 wr => ∃ (k : Nat) (q : Int) (zs : List Nat), k ≤ a ∧ u7 = .int .i64 k ∧ u6 = .int .i64 q ∧ 0 ≤ q ∧ q ≤ 1 ∧ Hid (MInv (digs n) (digs m) zs k q) ∧ Hid (Own wr w.heap.size u5 zs) ∧ Hid (Below w.heap.size w wr)) (fun _ _ u7 _ => a - (intOf u7).toNat)
 case atStart => exact ⟨0, 0, [], by omega, rfl, rfl, by omega, by omega, MInv.start _ _, Own.nil_ _ _, Below.refl _ _⟩
 case round =>
  obtain ⟨k, q, zs, hkM, rfl, rfl, hq0, hq1, hinv, hown, hbel⟩ := hrel
  have x0 := dg_nonneg (digs n) k
  have x1 := dg_lt (allDig_digs n) k
  have y0 := dg_nonneg (digs m) k
  have y1 := dg_lt (allDig_digs m) k
  have hBs : w.heap.size ≤ wr.heap.size := hbel.out.size
  have hzl : Hid (zs.length = k) := hinv.out.2.1
  by_cases hka : k < a
  · obtain ⟨b1, o1, rfl, hB1, hcell1⟩ := (h.below hbel.out) (by unfold LenIs at ha; omega)
    replace hcell1 := hcell1 k (by unfold LenIs at ha; omega)
    have d1 : decide (k < a) = true := by simpa using hka
    by_cases hkb : k < b
    · obtain ⟨b2, o2, rfl, hB2, hcell2⟩ := (h'.below hbel.out) (by unfold LenIs at hb; omega)
      replace hcell2 := hcell2 k (by unfold LenIs at hb; omega)
      have d2 : decide (k < b) = true := by simpa using hkb
      by_cases hneg : dg (digs n) k - q - dg (digs m) k < 0
      · have _hh : True := trivial
        have m0 : 0 ≤ (dg (digs n) k - q - dg (digs m) k + 10) := by omega
        have m1 : (dg (digs n) k - q - dg (digs m) k + 10) < 10 := by omega
        have hstep := qh9 (hinv.out.step (q' := 1) (z := dg (digs n) k - q - dg (digs m) k + 10) m0 m1 (dg (digs n) k) (dg (digs m) k) rfl (rfl) (by omega))
        have hnew := qh9 (cell_one_new wr (.int .i64 (dg (digs n) k - q - dg (digs m) k + 10)) 3)
        go_wp2_with (at_builtin; refine wpList_append_own _ rfl (.tmp 35) (.tmp 37) 58 rfl w.heap.size 3 i0 (.int .i64 0) 1 8 Tryz.underlying58 hi.out hz0.out hz1.out hz2.out rfl (by decide) u5 zs.length (ci zs) rfl ((Own.row hown.out).alloc _) ⟨wr.heap.size, 0, none⟩ 1 1 [.int .i64 (dg (digs n) k - q - dg (digs m) k + 10)] rfl rfl hnew.out (one_cells1 _ _) ?c2 ?c3 ?c4 ?_)
        case c2 => have := hzl.out; unfold maxLen; omega
        case c3 => have := hzl.out; omega
        case c4 => first | omega | (simp; omega)
        intro v1 w1 hown1 hg1 _
        have hown2 := qh9 (own_next (v := u5) (w := wr) hown1 rfl m0)
        have hbel2 := qh9 (below_next hbel.out hBs hown.out hg1)
        clear hown1 hg1 hown hbel hnew
        go_wp2
        go_roundw
        case rel => exact ⟨k + 1, 1, _, by omega, by go_num, rfl, by omega, by omega, hstep, hown2, hbel2⟩
        case measure => simp [intOf]; omega
      · have _hh : True := trivial
        have m0 : 0 ≤ (dg (digs n) k - q - dg (digs m) k) := by omega
        have m1 : (dg (digs n) k - q - dg (digs m) k) < 10 := by omega
        have hstep := qh9 (hinv.out.step (q' := 0) (z := dg (digs n) k - q - dg (digs m) k) m0 m1 (dg (digs n) k) (dg (digs m) k) rfl (rfl) (by omega))
        have hnew := qh9 (cell_one_new wr (.int .i64 (dg (digs n) k - q - dg (digs m) k)) 3)
        go_wp2_with (at_builtin; refine wpList_append_own _ rfl (.tmp 35) (.tmp 37) 58 rfl w.heap.size 3 i0 (.int .i64 0) 1 8 Tryz.underlying58 hi.out hz0.out hz1.out hz2.out rfl (by decide) u5 zs.length (ci zs) rfl ((Own.row hown.out).alloc _) ⟨wr.heap.size, 0, none⟩ 1 1 [.int .i64 (dg (digs n) k - q - dg (digs m) k)] rfl rfl hnew.out (one_cells1 _ _) ?c2 ?c3 ?c4 ?_)
        case c2 => have := hzl.out; unfold maxLen; omega
        case c3 => have := hzl.out; omega
        case c4 => first | omega | (simp; omega)
        intro v1 w1 hown1 hg1 _
        have hown2 := qh9 (own_next (v := u5) (w := wr) hown1 rfl m0)
        have hbel2 := qh9 (below_next hbel.out hBs hown.out hg1)
        clear hown1 hg1 hown hbel hnew
        go_wp2
        go_roundw
        case rel => exact ⟨k + 1, 0, _, by omega, by go_num, rfl, by omega, by omega, hstep, hown2, hbel2⟩
        case measure => simp [intOf]; omega
    · have d2 : decide (k < b) = false := by simpa using hkb
      have z2 : Hid (dg (digs m) k = 0) := dg_out (by unfold LenIs at hb; omega)
      by_cases hneg : dg (digs n) k - q < 0
      · have _hh : True := trivial
        have m0 : 0 ≤ (dg (digs n) k - q + 10) := by omega
        have m1 : (dg (digs n) k - q + 10) < 10 := by omega
        have hstep := qh9 (hinv.out.step (q' := 1) (z := dg (digs n) k - q + 10) m0 m1 (dg (digs n) k) (0) rfl (z2.out.symm) (by omega))
        have hnew := qh9 (cell_one_new wr (.int .i64 (dg (digs n) k - q + 10)) 3)
        go_wp2_with (at_builtin; refine wpList_append_own _ rfl (.tmp 35) (.tmp 37) 58 rfl w.heap.size 3 i0 (.int .i64 0) 1 8 Tryz.underlying58 hi.out hz0.out hz1.out hz2.out rfl (by decide) u5 zs.length (ci zs) rfl ((Own.row hown.out).alloc _) ⟨wr.heap.size, 0, none⟩ 1 1 [.int .i64 (dg (digs n) k - q + 10)] rfl rfl hnew.out (one_cells1 _ _) ?c2 ?c3 ?c4 ?_)
        case c2 => have := hzl.out; unfold maxLen; omega
        case c3 => have := hzl.out; omega
        case c4 => first | omega | (simp; omega)
        intro v1 w1 hown1 hg1 _
        have hown2 := qh9 (own_next (v := u5) (w := wr) hown1 rfl m0)
        have hbel2 := qh9 (below_next hbel.out hBs hown.out hg1)
        clear hown1 hg1 hown hbel hnew
        go_wp2
        go_roundw
        case rel => exact ⟨k + 1, 1, _, by omega, by go_num, rfl, by omega, by omega, hstep, hown2, hbel2⟩
        case measure => simp [intOf]; omega
      · have _hh : True := trivial
        have m0 : 0 ≤ (dg (digs n) k - q) := by omega
        have m1 : (dg (digs n) k - q) < 10 := by omega
        have hstep := qh9 (hinv.out.step (q' := 0) (z := dg (digs n) k - q) m0 m1 (dg (digs n) k) (0) rfl (z2.out.symm) (by omega))
        have hnew := qh9 (cell_one_new wr (.int .i64 (dg (digs n) k - q)) 3)
        go_wp2_with (at_builtin; refine wpList_append_own _ rfl (.tmp 35) (.tmp 37) 58 rfl w.heap.size 3 i0 (.int .i64 0) 1 8 Tryz.underlying58 hi.out hz0.out hz1.out hz2.out rfl (by decide) u5 zs.length (ci zs) rfl ((Own.row hown.out).alloc _) ⟨wr.heap.size, 0, none⟩ 1 1 [.int .i64 (dg (digs n) k - q)] rfl rfl hnew.out (one_cells1 _ _) ?c2 ?c3 ?c4 ?_)
        case c2 => have := hzl.out; unfold maxLen; omega
        case c3 => have := hzl.out; omega
        case c4 => first | omega | (simp; omega)
        intro v1 w1 hown1 hg1 _
        have hown2 := qh9 (own_next (v := u5) (w := wr) hown1 rfl m0)
        have hbel2 := qh9 (below_next hbel.out hBs hown.out hg1)
        clear hown1 hg1 hown hbel hnew
        go_wp2
        go_roundw
        case rel => exact ⟨k + 1, 0, _, by omega, by go_num, rfl, by omega, by omega, hstep, hown2, hbel2⟩
        case measure => simp [intOf]; omega
  · obtain rfl : k = a := by omega
    have hfin := hinv.out.done ha (by unfold LenIs at hb; omega) hq0 hq1 (by rw [ofD_digs, ofD_digs]; exact hle)
    rw [ofD_digs, ofD_digs] at hfin
    replace hfin := qh9 hfin
    obtain ⟨A2, c2, rfl, hc2, hR2, hF2⟩ := hown.out.formF
    replace hR2 := qh9 hR2
    go_wp2_with fail
    refine (trimR A2 zs (n - m) _ c2 _ _ hfin.out.2.2 rfl hR2.out hfin.out.1 hc2 (by have := hfin.out.2.1; omega)).mono ?_
    rintro e w3 ⟨rfl, rfl⟩
    go_wp2
    go_ret
    exact ⟨_, _, rfl, Nat.le_trans (digs_length_le (by have := ofD_lt hfin.out.1; rwa [hfin.out.2.2] at this)) hc2, hR2.out.of_digs hfin.out.1 hfin.out.2.2, hbel.out, hF2⟩
theorem make64 (n : Nat) (x : Int) (hx : x = (n : Int)) (hn : n ≤ 10000000000) (w : World) :
 (Instr.makeSlice 58 (.int .i64 x) (.int .i64 x)).run Tryz.prog w = .ok (.slice (some ⟨w.heap.size, 0, none⟩) n n) (w.alloc (.cells (rowOf .i64 (zeros n)) 3)) := by
 subst hx
 rw [run_make_row' (P := Tryz.prog) 58 3 (.int .i64 0) 8 Tryz.underlying58 (by kernel_rfl) rfl .i64 .i64 n (by omega) (by omega) w]
 congr 3
 simp [madeCells, rowOf, zeros, List.map_replicate]
 apply Array.ext
 · simp
 · intro i h1 h2
   simp [Nat.mod_one]
end Go.Proofs.YtinjhnnpbejccaaGreatDoor
