/- The walk of NumberInts. -/
import Derived.Test.YtclniebhgfodfaaDoorValid
import Derived.Lib.LaidTab
import Derived.WalkSmall
namespace Go.Proofs.YtclniebhgfodfaaDoor
open Go Go.RowKit
set_option linter.unusedVariables false

def Tab (w : World) : Prop := Lib.TabIs Tryd.prog w "internal/strconv.uint64pow10" .u64 Lib.pow10Tab
theorem tab_global : Tryd.prog.globalNamed "internal/strconv.uint64pow10" = some 0 := by kernel_rfl
theorem Tab.pos {w : World} (h : Tab w) : 0 < w.heap.size := by
  have h1 := World.var?_cell tab_global h 0
  have h2 : w.cell? ⟨0, 0, none⟩ = some (.int .u64 1) := by rw [h1]; rfl
  exact World.block_lt_of_cell? w _ h2
theorem Tab.below {w w' : World} (h : Tab w) (hb : Below w.heap.size w w') : Tab w' := var?_below hb tab_global h.pos h
theorem below_grow (w : World) (k : Nat) (os : Array Obj) : Below w.heap.size w (Go.Sort.grow (w.drewN k) os) := by
  refine ⟨rfl, rfl, rfl, by simp [Go.Sort.grow], fun b hb => ?_⟩
  simp only [Go.Sort.grow, World.heap_drewN]
  rw [Array.getElem?_append_left hb]

theorem itoa_any (n : Int) (w : World) (h : Hid (-9223372036854775808 ≤ n ∧ n ≤ 9223372036854775807)) (ht : Tab w) :
    Calls Tryd.prog 22 #[.int .i64 n] w (RetS w n) :=
  (Tryd.strconv_Itoa n h.out.1 h.out.2 w ht).mono fun e w' ⟨h1, k, os, h2⟩ => by
    subst h2
    refine ⟨h1.trans ?_, below_grow w k os⟩
    rw [itoa_eq]
    rfl

set_option maxHeartbeats 400000 in
theorem fromInt_any (n : Int) (w : World) (h : Hid (-9223372036854775808 ≤ n ∧ n ≤ 9223372036854775807)) (ht : Tab w) :
    Calls Tryd.prog 21 #[.int .i64 n] w (RetS w n) := by
  replace ht := Lib.hid ht
  go_enter Tryd.func21, Tryd.ntmps21
  go_wp2_with fail
  refine (itoa_any n w h ht.out).mono ?_
  rintro e w1 ⟨rfl, hb1⟩
  go_wp2
  go_ret
  exact ⟨rfl, hb1⟩

theorem digs_nine (N : Nat) : (digs N).length ≤ 9 ↔ N < 1000000000 := by
  constructor
  · intro h
    have h1 := lt_pow_digs N
    have h2 : 10 ^ (digs N).length ≤ 10 ^ 9 := Nat.pow_le_pow_right (by decide) h
    omega
  · intro h
    exact digs_length_le (k := 9) (by omega)
theorem small_text (n : Int) : isSmall (text n) = decide (n.natAbs < 1000000000) := by
  have h : mag (text n) = n.natAbs := by rw [← val_natAbs, val_text]
  rw [small_len, h]
  exact decide_eq_decide.2 (digs_nine _)
theorem text_of_int {n : Int} (h : Hid (-9223372036854775808 ≤ n ∧ n ≤ 9223372036854775807)) : (BA (text n)).size ≤ 100 := by
  rw [BA_size]
  have h1 := text_length (x := n) (k := 20) (by have := h.out; omega)
  omega

set_option maxHeartbeats 4000000 in
theorem ints_s_lt (n m : Int) (w : World) (hn : Hid (-9223372036854775808 ≤ n ∧ n ≤ 9223372036854775807)) (hm : Hid (-9223372036854775808 ≤ m ∧ m ≤ 9223372036854775807)) (ht : Tab w) (g1 : -1000000000 < n) (g2 : n < 1000000000) (g3 : n < m) :
    Calls Tryd.prog 4 #[.int .i64 n, .int .i64 m] w (RetV w (.bool true)) := by
  have sx := text_of_int hn
  have sy := text_of_int hm
  have hsm : Hid (isSmall (text n) = true) := by show _ = _; rw [small_text]; exact decide_eq_true (by omega)
  have hsv : Hid (smallVal (text n) = n) := by show _ = _; unfold smallVal; rw [hsm.out]; rw [if_pos rfl, val_text]
  have ho : Hid (ordI n m = -1) := ordI_lt g3
  obtain ⟨x, hx⟩ : ∃ x, BA (text n) = x := ⟨_, rfl⟩
  obtain ⟨y, hy⟩ : ∃ y, BA (text m) = y := ⟨_, rfl⟩
  have lx : Hid (LA x = text n) := by show _ = _; rw [← hx]; rfl
  have ly : Hid (LA y = text m) := by show _ = _; rw [← hy]; rfl
  have vx : Hid (valid (LA x) = true) := by show _ = _; rw [lx.out]; exact valid_text n
  have nx : Hid (val (LA x) = n) := by show _ = _; rw [lx.out, val_text]
  have ny : Hid (val (LA y) = m) := by show _ = _; rw [ly.out, val_text]
  rw [hx] at sx
  rw [hy] at sy
  replace hx := Lib.hid hx
  replace hy := Lib.hid hy
  replace ht := Lib.hid ht
  go_enter Tryd.func4, Tryd.ntmps4
  go_wp2_with fail
  refine (first_any _).mono ?_
  rintro e w1 ⟨rfl, hB1⟩
  go_wp2_with fail
  refine (fromInt_any n _ hn (ht.out.below hB1)).mono ?_
  rintro e w2 ⟨rfl, hb2⟩
  have hB2 := chain hB1 hb2
  rw [hx.out]
  go_wp2_with fail
  refine (fromInt_any m _ hm (ht.out.below hB2)).mono ?_
  rintro e w3 ⟨rfl, hb3⟩
  have hB3 := chain hB2 hb3
  rw [hy.out]
  go_wp2_with fail
  refine (small_any x _ (by omega)).mono ?_
  rintro e w4 ⟨rfl, hb4⟩
  have hB4 := chain hB3 hb4
  rw [lx.out, hsm.out, hsv.out]
  go_wp2_with fail
  refine (itoa_any n _ hn (ht.out.below hB4)).mono ?_
  rintro e w5 ⟨rfl, hb5⟩
  have hB5 := chain hB4 hb5
  rw [hx.out]
  go_wp2_with fail
  refine (valid_any x _ (by unfold maxLen; omega)).mono ?_
  rintro e w6 ⟨rfl, rfl⟩
  rw [vx.out]
  go_wp2_with fail
  refine (compare_any x y _ (by omega) (by omega)).mono ?_
  rintro e w6 ⟨rfl, rfl⟩
  rw [nx.out, ny.out, ho.out]
  go_wp2
  go_ret
  exact ⟨rfl, hB5⟩

set_option maxHeartbeats 4000000 in
theorem ints_s_eq (n m : Int) (w : World) (hn : Hid (-9223372036854775808 ≤ n ∧ n ≤ 9223372036854775807)) (hm : Hid (-9223372036854775808 ≤ m ∧ m ≤ 9223372036854775807)) (ht : Tab w) (g1 : -1000000000 < n) (g2 : n < 1000000000) (g3 : ¬ n < m) (g4 : ¬ m < n) :
    Calls Tryd.prog 4 #[.int .i64 n, .int .i64 m] w (RetV w (.bool true)) := by
  have sx := text_of_int hn
  have sy := text_of_int hm
  have hsm : Hid (isSmall (text n) = true) := by show _ = _; rw [small_text]; exact decide_eq_true (by omega)
  have hsv : Hid (smallVal (text n) = n) := by show _ = _; unfold smallVal; rw [hsm.out]; rw [if_pos rfl, val_text]
  have ho : Hid (ordI n m = 0) := ordI_eq (by omega)
  obtain ⟨x, hx⟩ : ∃ x, BA (text n) = x := ⟨_, rfl⟩
  obtain ⟨y, hy⟩ : ∃ y, BA (text m) = y := ⟨_, rfl⟩
  have lx : Hid (LA x = text n) := by show _ = _; rw [← hx]; rfl
  have ly : Hid (LA y = text m) := by show _ = _; rw [← hy]; rfl
  have vx : Hid (valid (LA x) = true) := by show _ = _; rw [lx.out]; exact valid_text n
  have nx : Hid (val (LA x) = n) := by show _ = _; rw [lx.out, val_text]
  have ny : Hid (val (LA y) = m) := by show _ = _; rw [ly.out, val_text]
  rw [hx] at sx
  rw [hy] at sy
  replace hx := Lib.hid hx
  replace hy := Lib.hid hy
  replace ht := Lib.hid ht
  go_enter Tryd.func4, Tryd.ntmps4
  go_wp2_with fail
  refine (first_any _).mono ?_
  rintro e w1 ⟨rfl, hB1⟩
  go_wp2_with fail
  refine (fromInt_any n _ hn (ht.out.below hB1)).mono ?_
  rintro e w2 ⟨rfl, hb2⟩
  have hB2 := chain hB1 hb2
  rw [hx.out]
  go_wp2_with fail
  refine (fromInt_any m _ hm (ht.out.below hB2)).mono ?_
  rintro e w3 ⟨rfl, hb3⟩
  have hB3 := chain hB2 hb3
  rw [hy.out]
  go_wp2_with fail
  refine (small_any x _ (by omega)).mono ?_
  rintro e w4 ⟨rfl, hb4⟩
  have hB4 := chain hB3 hb4
  rw [lx.out, hsm.out, hsv.out]
  go_wp2_with fail
  refine (itoa_any n _ hn (ht.out.below hB4)).mono ?_
  rintro e w5 ⟨rfl, hb5⟩
  have hB5 := chain hB4 hb5
  rw [hx.out]
  go_wp2_with fail
  refine (valid_any x _ (by unfold maxLen; omega)).mono ?_
  rintro e w6 ⟨rfl, rfl⟩
  rw [vx.out]
  go_wp2_with fail
  refine (compare_any x y _ (by omega) (by omega)).mono ?_
  rintro e w6 ⟨rfl, rfl⟩
  rw [nx.out, ny.out, ho.out]
  go_wp2
  go_ret
  exact ⟨rfl, hB5⟩

set_option maxHeartbeats 4000000 in
theorem ints_s_gt (n m : Int) (w : World) (hn : Hid (-9223372036854775808 ≤ n ∧ n ≤ 9223372036854775807)) (hm : Hid (-9223372036854775808 ≤ m ∧ m ≤ 9223372036854775807)) (ht : Tab w) (g1 : -1000000000 < n) (g2 : n < 1000000000) (g3 : ¬ n < m) (g4 : m < n) :
    Calls Tryd.prog 4 #[.int .i64 n, .int .i64 m] w (RetV w (.bool true)) := by
  have sx := text_of_int hn
  have sy := text_of_int hm
  have hsm : Hid (isSmall (text n) = true) := by show _ = _; rw [small_text]; exact decide_eq_true (by omega)
  have hsv : Hid (smallVal (text n) = n) := by show _ = _; unfold smallVal; rw [hsm.out]; rw [if_pos rfl, val_text]
  have ho : Hid (ordI n m = 1) := ordI_gt g4
  obtain ⟨x, hx⟩ : ∃ x, BA (text n) = x := ⟨_, rfl⟩
  obtain ⟨y, hy⟩ : ∃ y, BA (text m) = y := ⟨_, rfl⟩
  have lx : Hid (LA x = text n) := by show _ = _; rw [← hx]; rfl
  have ly : Hid (LA y = text m) := by show _ = _; rw [← hy]; rfl
  have vx : Hid (valid (LA x) = true) := by show _ = _; rw [lx.out]; exact valid_text n
  have nx : Hid (val (LA x) = n) := by show _ = _; rw [lx.out, val_text]
  have ny : Hid (val (LA y) = m) := by show _ = _; rw [ly.out, val_text]
  rw [hx] at sx
  rw [hy] at sy
  replace hx := Lib.hid hx
  replace hy := Lib.hid hy
  replace ht := Lib.hid ht
  go_enter Tryd.func4, Tryd.ntmps4
  go_wp2_with fail
  refine (first_any _).mono ?_
  rintro e w1 ⟨rfl, hB1⟩
  go_wp2_with fail
  refine (fromInt_any n _ hn (ht.out.below hB1)).mono ?_
  rintro e w2 ⟨rfl, hb2⟩
  have hB2 := chain hB1 hb2
  rw [hx.out]
  go_wp2_with fail
  refine (fromInt_any m _ hm (ht.out.below hB2)).mono ?_
  rintro e w3 ⟨rfl, hb3⟩
  have hB3 := chain hB2 hb3
  rw [hy.out]
  go_wp2_with fail
  refine (small_any x _ (by omega)).mono ?_
  rintro e w4 ⟨rfl, hb4⟩
  have hB4 := chain hB3 hb4
  rw [lx.out, hsm.out, hsv.out]
  go_wp2_with fail
  refine (itoa_any n _ hn (ht.out.below hB4)).mono ?_
  rintro e w5 ⟨rfl, hb5⟩
  have hB5 := chain hB4 hb5
  rw [hx.out]
  go_wp2_with fail
  refine (valid_any x _ (by unfold maxLen; omega)).mono ?_
  rintro e w6 ⟨rfl, rfl⟩
  rw [vx.out]
  go_wp2_with fail
  refine (compare_any x y _ (by omega) (by omega)).mono ?_
  rintro e w6 ⟨rfl, rfl⟩
  rw [nx.out, ny.out, ho.out]
  go_wp2
  go_ret
  exact ⟨rfl, hB5⟩

set_option maxHeartbeats 4000000 in
theorem ints_l_lt (n m : Int) (w : World) (hn : Hid (-9223372036854775808 ≤ n ∧ n ≤ 9223372036854775807)) (hm : Hid (-9223372036854775808 ≤ m ∧ m ≤ 9223372036854775807)) (ht : Tab w) (g1 : n ≤ -1000000000) (g3 : n < m) :
    Calls Tryd.prog 4 #[.int .i64 n, .int .i64 m] w (RetV w (.bool true)) := by
  have sx := text_of_int hn
  have sy := text_of_int hm
  have hsm : Hid (isSmall (text n) = false) := by show _ = _; rw [small_text]; exact decide_eq_false (by omega)
  have hsv : Hid (smallVal (text n) = 0) := by show _ = _; unfold smallVal; rw [hsm.out]; rfl
  have ho : Hid (ordI n m = -1) := ordI_lt g3
  obtain ⟨x, hx⟩ : ∃ x, BA (text n) = x := ⟨_, rfl⟩
  obtain ⟨y, hy⟩ : ∃ y, BA (text m) = y := ⟨_, rfl⟩
  have lx : Hid (LA x = text n) := by show _ = _; rw [← hx]; rfl
  have ly : Hid (LA y = text m) := by show _ = _; rw [← hy]; rfl
  have vx : Hid (valid (LA x) = true) := by show _ = _; rw [lx.out]; exact valid_text n
  have nx : Hid (val (LA x) = n) := by show _ = _; rw [lx.out, val_text]
  have ny : Hid (val (LA y) = m) := by show _ = _; rw [ly.out, val_text]
  rw [hx] at sx
  rw [hy] at sy
  replace hx := Lib.hid hx
  replace hy := Lib.hid hy
  replace ht := Lib.hid ht
  go_enter Tryd.func4, Tryd.ntmps4
  go_wp2_with fail
  refine (first_any _).mono ?_
  rintro e w1 ⟨rfl, hB1⟩
  go_wp2_with fail
  refine (fromInt_any n _ hn (ht.out.below hB1)).mono ?_
  rintro e w2 ⟨rfl, hb2⟩
  have hB2 := chain hB1 hb2
  rw [hx.out]
  go_wp2_with fail
  refine (fromInt_any m _ hm (ht.out.below hB2)).mono ?_
  rintro e w3 ⟨rfl, hb3⟩
  have hB3 := chain hB2 hb3
  rw [hy.out]
  go_wp2_with fail
  refine (small_any x _ (by omega)).mono ?_
  rintro e w4 ⟨rfl, hb4⟩
  have hB4 := chain hB3 hb4
  rw [lx.out, hsm.out, hsv.out]
  go_wp2_with fail
  refine (itoa_any n _ hn (ht.out.below hB4)).mono ?_
  rintro e w5 ⟨rfl, hb5⟩
  have hB5 := chain hB4 hb5
  rw [hx.out]
  go_wp2_with fail
  refine (valid_any x _ (by unfold maxLen; omega)).mono ?_
  rintro e w6 ⟨rfl, rfl⟩
  rw [vx.out]
  go_wp2_with fail
  refine (compare_any x y _ (by omega) (by omega)).mono ?_
  rintro e w6 ⟨rfl, rfl⟩
  rw [nx.out, ny.out, ho.out]
  go_wp2
  go_ret
  exact ⟨rfl, hB5⟩

set_option maxHeartbeats 4000000 in
theorem ints_l_eq (n m : Int) (w : World) (hn : Hid (-9223372036854775808 ≤ n ∧ n ≤ 9223372036854775807)) (hm : Hid (-9223372036854775808 ≤ m ∧ m ≤ 9223372036854775807)) (ht : Tab w) (g1 : n ≤ -1000000000) (g3 : ¬ n < m) (g4 : ¬ m < n) :
    Calls Tryd.prog 4 #[.int .i64 n, .int .i64 m] w (RetV w (.bool true)) := by
  have sx := text_of_int hn
  have sy := text_of_int hm
  have hsm : Hid (isSmall (text n) = false) := by show _ = _; rw [small_text]; exact decide_eq_false (by omega)
  have hsv : Hid (smallVal (text n) = 0) := by show _ = _; unfold smallVal; rw [hsm.out]; rfl
  have ho : Hid (ordI n m = 0) := ordI_eq (by omega)
  obtain ⟨x, hx⟩ : ∃ x, BA (text n) = x := ⟨_, rfl⟩
  obtain ⟨y, hy⟩ : ∃ y, BA (text m) = y := ⟨_, rfl⟩
  have lx : Hid (LA x = text n) := by show _ = _; rw [← hx]; rfl
  have ly : Hid (LA y = text m) := by show _ = _; rw [← hy]; rfl
  have vx : Hid (valid (LA x) = true) := by show _ = _; rw [lx.out]; exact valid_text n
  have nx : Hid (val (LA x) = n) := by show _ = _; rw [lx.out, val_text]
  have ny : Hid (val (LA y) = m) := by show _ = _; rw [ly.out, val_text]
  rw [hx] at sx
  rw [hy] at sy
  replace hx := Lib.hid hx
  replace hy := Lib.hid hy
  replace ht := Lib.hid ht
  go_enter Tryd.func4, Tryd.ntmps4
  go_wp2_with fail
  refine (first_any _).mono ?_
  rintro e w1 ⟨rfl, hB1⟩
  go_wp2_with fail
  refine (fromInt_any n _ hn (ht.out.below hB1)).mono ?_
  rintro e w2 ⟨rfl, hb2⟩
  have hB2 := chain hB1 hb2
  rw [hx.out]
  go_wp2_with fail
  refine (fromInt_any m _ hm (ht.out.below hB2)).mono ?_
  rintro e w3 ⟨rfl, hb3⟩
  have hB3 := chain hB2 hb3
  rw [hy.out]
  go_wp2_with fail
  refine (small_any x _ (by omega)).mono ?_
  rintro e w4 ⟨rfl, hb4⟩
  have hB4 := chain hB3 hb4
  rw [lx.out, hsm.out, hsv.out]
  go_wp2_with fail
  refine (itoa_any n _ hn (ht.out.below hB4)).mono ?_
  rintro e w5 ⟨rfl, hb5⟩
  have hB5 := chain hB4 hb5
  rw [hx.out]
  go_wp2_with fail
  refine (valid_any x _ (by unfold maxLen; omega)).mono ?_
  rintro e w6 ⟨rfl, rfl⟩
  rw [vx.out]
  go_wp2_with fail
  refine (compare_any x y _ (by omega) (by omega)).mono ?_
  rintro e w6 ⟨rfl, rfl⟩
  rw [nx.out, ny.out, ho.out]
  go_wp2
  go_ret
  exact ⟨rfl, hB5⟩

set_option maxHeartbeats 4000000 in
theorem ints_l_gt (n m : Int) (w : World) (hn : Hid (-9223372036854775808 ≤ n ∧ n ≤ 9223372036854775807)) (hm : Hid (-9223372036854775808 ≤ m ∧ m ≤ 9223372036854775807)) (ht : Tab w) (g1 : n ≤ -1000000000) (g3 : ¬ n < m) (g4 : m < n) :
    Calls Tryd.prog 4 #[.int .i64 n, .int .i64 m] w (RetV w (.bool true)) := by
  have sx := text_of_int hn
  have sy := text_of_int hm
  have hsm : Hid (isSmall (text n) = false) := by show _ = _; rw [small_text]; exact decide_eq_false (by omega)
  have hsv : Hid (smallVal (text n) = 0) := by show _ = _; unfold smallVal; rw [hsm.out]; rfl
  have ho : Hid (ordI n m = 1) := ordI_gt g4
  obtain ⟨x, hx⟩ : ∃ x, BA (text n) = x := ⟨_, rfl⟩
  obtain ⟨y, hy⟩ : ∃ y, BA (text m) = y := ⟨_, rfl⟩
  have lx : Hid (LA x = text n) := by show _ = _; rw [← hx]; rfl
  have ly : Hid (LA y = text m) := by show _ = _; rw [← hy]; rfl
  have vx : Hid (valid (LA x) = true) := by show _ = _; rw [lx.out]; exact valid_text n
  have nx : Hid (val (LA x) = n) := by show _ = _; rw [lx.out, val_text]
  have ny : Hid (val (LA y) = m) := by show _ = _; rw [ly.out, val_text]
  rw [hx] at sx
  rw [hy] at sy
  replace hx := Lib.hid hx
  replace hy := Lib.hid hy
  replace ht := Lib.hid ht
  go_enter Tryd.func4, Tryd.ntmps4
  go_wp2_with fail
  refine (first_any _).mono ?_
  rintro e w1 ⟨rfl, hB1⟩
  go_wp2_with fail
  refine (fromInt_any n _ hn (ht.out.below hB1)).mono ?_
  rintro e w2 ⟨rfl, hb2⟩
  have hB2 := chain hB1 hb2
  rw [hx.out]
  go_wp2_with fail
  refine (fromInt_any m _ hm (ht.out.below hB2)).mono ?_
  rintro e w3 ⟨rfl, hb3⟩
  have hB3 := chain hB2 hb3
  rw [hy.out]
  go_wp2_with fail
  refine (small_any x _ (by omega)).mono ?_
  rintro e w4 ⟨rfl, hb4⟩
  have hB4 := chain hB3 hb4
  rw [lx.out, hsm.out, hsv.out]
  go_wp2_with fail
  refine (itoa_any n _ hn (ht.out.below hB4)).mono ?_
  rintro e w5 ⟨rfl, hb5⟩
  have hB5 := chain hB4 hb5
  rw [hx.out]
  go_wp2_with fail
  refine (valid_any x _ (by unfold maxLen; omega)).mono ?_
  rintro e w6 ⟨rfl, rfl⟩
  rw [vx.out]
  go_wp2_with fail
  refine (compare_any x y _ (by omega) (by omega)).mono ?_
  rintro e w6 ⟨rfl, rfl⟩
  rw [nx.out, ny.out, ho.out]
  go_wp2
  go_ret
  exact ⟨rfl, hB5⟩

set_option maxHeartbeats 4000000 in
theorem ints_h_lt (n m : Int) (w : World) (hn : Hid (-9223372036854775808 ≤ n ∧ n ≤ 9223372036854775807)) (hm : Hid (-9223372036854775808 ≤ m ∧ m ≤ 9223372036854775807)) (ht : Tab w) (g1 : -1000000000 < n) (g2 : 1000000000 ≤ n) (g3 : n < m) :
    Calls Tryd.prog 4 #[.int .i64 n, .int .i64 m] w (RetV w (.bool true)) := by
  have sx := text_of_int hn
  have sy := text_of_int hm
  have hsm : Hid (isSmall (text n) = false) := by show _ = _; rw [small_text]; exact decide_eq_false (by omega)
  have hsv : Hid (smallVal (text n) = 0) := by show _ = _; unfold smallVal; rw [hsm.out]; rfl
  have ho : Hid (ordI n m = -1) := ordI_lt g3
  obtain ⟨x, hx⟩ : ∃ x, BA (text n) = x := ⟨_, rfl⟩
  obtain ⟨y, hy⟩ : ∃ y, BA (text m) = y := ⟨_, rfl⟩
  have lx : Hid (LA x = text n) := by show _ = _; rw [← hx]; rfl
  have ly : Hid (LA y = text m) := by show _ = _; rw [← hy]; rfl
  have vx : Hid (valid (LA x) = true) := by show _ = _; rw [lx.out]; exact valid_text n
  have nx : Hid (val (LA x) = n) := by show _ = _; rw [lx.out, val_text]
  have ny : Hid (val (LA y) = m) := by show _ = _; rw [ly.out, val_text]
  rw [hx] at sx
  rw [hy] at sy
  replace hx := Lib.hid hx
  replace hy := Lib.hid hy
  replace ht := Lib.hid ht
  go_enter Tryd.func4, Tryd.ntmps4
  go_wp2_with fail
  refine (first_any _).mono ?_
  rintro e w1 ⟨rfl, hB1⟩
  go_wp2_with fail
  refine (fromInt_any n _ hn (ht.out.below hB1)).mono ?_
  rintro e w2 ⟨rfl, hb2⟩
  have hB2 := chain hB1 hb2
  rw [hx.out]
  go_wp2_with fail
  refine (fromInt_any m _ hm (ht.out.below hB2)).mono ?_
  rintro e w3 ⟨rfl, hb3⟩
  have hB3 := chain hB2 hb3
  rw [hy.out]
  go_wp2_with fail
  refine (small_any x _ (by omega)).mono ?_
  rintro e w4 ⟨rfl, hb4⟩
  have hB4 := chain hB3 hb4
  rw [lx.out, hsm.out, hsv.out]
  go_wp2_with fail
  refine (itoa_any n _ hn (ht.out.below hB4)).mono ?_
  rintro e w5 ⟨rfl, hb5⟩
  have hB5 := chain hB4 hb5
  rw [hx.out]
  go_wp2_with fail
  refine (valid_any x _ (by unfold maxLen; omega)).mono ?_
  rintro e w6 ⟨rfl, rfl⟩
  rw [vx.out]
  go_wp2_with fail
  refine (compare_any x y _ (by omega) (by omega)).mono ?_
  rintro e w6 ⟨rfl, rfl⟩
  rw [nx.out, ny.out, ho.out]
  go_wp2
  go_ret
  exact ⟨rfl, hB5⟩

set_option maxHeartbeats 4000000 in
theorem ints_h_eq (n m : Int) (w : World) (hn : Hid (-9223372036854775808 ≤ n ∧ n ≤ 9223372036854775807)) (hm : Hid (-9223372036854775808 ≤ m ∧ m ≤ 9223372036854775807)) (ht : Tab w) (g1 : -1000000000 < n) (g2 : 1000000000 ≤ n) (g3 : ¬ n < m) (g4 : ¬ m < n) :
    Calls Tryd.prog 4 #[.int .i64 n, .int .i64 m] w (RetV w (.bool true)) := by
  have sx := text_of_int hn
  have sy := text_of_int hm
  have hsm : Hid (isSmall (text n) = false) := by show _ = _; rw [small_text]; exact decide_eq_false (by omega)
  have hsv : Hid (smallVal (text n) = 0) := by show _ = _; unfold smallVal; rw [hsm.out]; rfl
  have ho : Hid (ordI n m = 0) := ordI_eq (by omega)
  obtain ⟨x, hx⟩ : ∃ x, BA (text n) = x := ⟨_, rfl⟩
  obtain ⟨y, hy⟩ : ∃ y, BA (text m) = y := ⟨_, rfl⟩
  have lx : Hid (LA x = text n) := by show _ = _; rw [← hx]; rfl
  have ly : Hid (LA y = text m) := by show _ = _; rw [← hy]; rfl
  have vx : Hid (valid (LA x) = true) := by show _ = _; rw [lx.out]; exact valid_text n
  have nx : Hid (val (LA x) = n) := by show _ = _; rw [lx.out, val_text]
  have ny : Hid (val (LA y) = m) := by show _ = _; rw [ly.out, val_text]
  rw [hx] at sx
  rw [hy] at sy
  replace hx := Lib.hid hx
  replace hy := Lib.hid hy
  replace ht := Lib.hid ht
  go_enter Tryd.func4, Tryd.ntmps4
  go_wp2_with fail
  refine (first_any _).mono ?_
  rintro e w1 ⟨rfl, hB1⟩
  go_wp2_with fail
  refine (fromInt_any n _ hn (ht.out.below hB1)).mono ?_
  rintro e w2 ⟨rfl, hb2⟩
  have hB2 := chain hB1 hb2
  rw [hx.out]
  go_wp2_with fail
  refine (fromInt_any m _ hm (ht.out.below hB2)).mono ?_
  rintro e w3 ⟨rfl, hb3⟩
  have hB3 := chain hB2 hb3
  rw [hy.out]
  go_wp2_with fail
  refine (small_any x _ (by omega)).mono ?_
  rintro e w4 ⟨rfl, hb4⟩
  have hB4 := chain hB3 hb4
  rw [lx.out, hsm.out, hsv.out]
  go_wp2_with fail
  refine (itoa_any n _ hn (ht.out.below hB4)).mono ?_
  rintro e w5 ⟨rfl, hb5⟩
  have hB5 := chain hB4 hb5
  rw [hx.out]
  go_wp2_with fail
  refine (valid_any x _ (by unfold maxLen; omega)).mono ?_
  rintro e w6 ⟨rfl, rfl⟩
  rw [vx.out]
  go_wp2_with fail
  refine (compare_any x y _ (by omega) (by omega)).mono ?_
  rintro e w6 ⟨rfl, rfl⟩
  rw [nx.out, ny.out, ho.out]
  go_wp2
  go_ret
  exact ⟨rfl, hB5⟩

set_option maxHeartbeats 4000000 in
theorem ints_h_gt (n m : Int) (w : World) (hn : Hid (-9223372036854775808 ≤ n ∧ n ≤ 9223372036854775807)) (hm : Hid (-9223372036854775808 ≤ m ∧ m ≤ 9223372036854775807)) (ht : Tab w) (g1 : -1000000000 < n) (g2 : 1000000000 ≤ n) (g3 : ¬ n < m) (g4 : m < n) :
    Calls Tryd.prog 4 #[.int .i64 n, .int .i64 m] w (RetV w (.bool true)) := by
  have sx := text_of_int hn
  have sy := text_of_int hm
  have hsm : Hid (isSmall (text n) = false) := by show _ = _; rw [small_text]; exact decide_eq_false (by omega)
  have hsv : Hid (smallVal (text n) = 0) := by show _ = _; unfold smallVal; rw [hsm.out]; rfl
  have ho : Hid (ordI n m = 1) := ordI_gt g4
  obtain ⟨x, hx⟩ : ∃ x, BA (text n) = x := ⟨_, rfl⟩
  obtain ⟨y, hy⟩ : ∃ y, BA (text m) = y := ⟨_, rfl⟩
  have lx : Hid (LA x = text n) := by show _ = _; rw [← hx]; rfl
  have ly : Hid (LA y = text m) := by show _ = _; rw [← hy]; rfl
  have vx : Hid (valid (LA x) = true) := by show _ = _; rw [lx.out]; exact valid_text n
  have nx : Hid (val (LA x) = n) := by show _ = _; rw [lx.out, val_text]
  have ny : Hid (val (LA y) = m) := by show _ = _; rw [ly.out, val_text]
  rw [hx] at sx
  rw [hy] at sy
  replace hx := Lib.hid hx
  replace hy := Lib.hid hy
  replace ht := Lib.hid ht
  go_enter Tryd.func4, Tryd.ntmps4
  go_wp2_with fail
  refine (first_any _).mono ?_
  rintro e w1 ⟨rfl, hB1⟩
  go_wp2_with fail
  refine (fromInt_any n _ hn (ht.out.below hB1)).mono ?_
  rintro e w2 ⟨rfl, hb2⟩
  have hB2 := chain hB1 hb2
  rw [hx.out]
  go_wp2_with fail
  refine (fromInt_any m _ hm (ht.out.below hB2)).mono ?_
  rintro e w3 ⟨rfl, hb3⟩
  have hB3 := chain hB2 hb3
  rw [hy.out]
  go_wp2_with fail
  refine (small_any x _ (by omega)).mono ?_
  rintro e w4 ⟨rfl, hb4⟩
  have hB4 := chain hB3 hb4
  rw [lx.out, hsm.out, hsv.out]
  go_wp2_with fail
  refine (itoa_any n _ hn (ht.out.below hB4)).mono ?_
  rintro e w5 ⟨rfl, hb5⟩
  have hB5 := chain hB4 hb5
  rw [hx.out]
  go_wp2_with fail
  refine (valid_any x _ (by unfold maxLen; omega)).mono ?_
  rintro e w6 ⟨rfl, rfl⟩
  rw [vx.out]
  go_wp2_with fail
  refine (compare_any x y _ (by omega) (by omega)).mono ?_
  rintro e w6 ⟨rfl, rfl⟩
  rw [nx.out, ny.out, ho.out]
  go_wp2
  go_ret
  exact ⟨rfl, hB5⟩

theorem ints_walk (n m : Int) (w : World) (hn : Hid (-9223372036854775808 ≤ n ∧ n ≤ 9223372036854775807)) (hm : Hid (-9223372036854775808 ≤ m ∧ m ≤ 9223372036854775807)) (ht : Tab w) :
    Calls Tryd.prog 4 #[.int .i64 n, .int .i64 m] w (RetV w (.bool true)) := by
  by_cases g1 : -1000000000 < n
  · by_cases g2 : n < 1000000000
    · by_cases g3 : n < m
      · exact ints_s_lt n m w hn hm ht g1 g2 g3
      · by_cases g4 : m < n
        · exact ints_s_gt n m w hn hm ht g1 g2 g3 g4
        · exact ints_s_eq n m w hn hm ht g1 g2 g3 g4
    · have g5 : 1000000000 ≤ n := by omega
      by_cases g3 : n < m
      · exact ints_h_lt n m w hn hm ht g1 g5 g3
      · by_cases g4 : m < n
        · exact ints_h_gt n m w hn hm ht g1 g5 g3 g4
        · exact ints_h_eq n m w hn hm ht g1 g5 g3 g4
  · have g5 : n ≤ -1000000000 := by omega
    by_cases g3 : n < m
    · exact ints_l_lt n m w hn hm ht g5 g3
    · by_cases g4 : m < n
      · exact ints_l_gt n m w hn hm ht g5 g3 g4
      · exact ints_l_eq n m w hn hm ht g5 g3 g4

end Go.Proofs.YtclniebhgfodfaaDoor
