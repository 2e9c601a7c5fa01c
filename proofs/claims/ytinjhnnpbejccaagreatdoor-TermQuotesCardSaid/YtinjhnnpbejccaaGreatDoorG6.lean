import Derived.Test.YtinjhnnpbejccaaGreatDoorAl
import Derived.Test.YtinjhnnpbejccaaGreatDoorG4
import Derived.Test.YtinjhnnpbejccaaGreatDoorG5
import Derived.Laws.IdiomStrings
namespace Go.Proofs.YtinjhnnpbejccaaGreatDoor
open Go Go.RowKit
set_option linter.unusedVariables false
set_option maxHeartbeats 32000000
set_option maxRecDepth 100000
def cb (l : List UInt8) : List Value := l.map fun c => Value.int .u8 (c.toNat : Int)
def textAt (b : Bool) (n i : Nat) : List UInt8 := (if b then [45] else []) ++ ((digs n).reverse.take i).map byteOf

theorem textAt_zero (b : Bool) (n : Nat) : textAt b n 0 = if b then [45] else [] := by unfold textAt; simp
theorem textAt_length (b : Bool) (n i : Nat) (hi : i ≤ (digs n).length) : (textAt b n i).length = (if b then 1 else 0) + i := by
 unfold textAt
 rw [List.length_append, List.length_map, List.length_take, List.length_reverse, Nat.min_eq_left hi]
 cases b <;> rfl
theorem textAt_end (b : Bool) {n i : Nat} (hi : (digs n).length = i) (hn : n ≠ 0) : textAt b n i = signText b n := by
 unfold textAt signText magText
 have hb : (n != 0) = true := by simpa using hn
 rw [List.take_of_length_le (by rw [List.length_reverse, hi]; exact Nat.le_refl _), hb, Bool.and_true, if_neg hn, List.map_reverse]
 cases b <;> rfl
theorem dg_byte {n j : Nat} : dg (digs n) j + 48 = ((byteOf ((digs n).getD j 0)).toNat : Int) := by
 rw [byteOf_toNat ((allDig_digs n).getD j)]
 unfold dg
 omega
theorem textAt_step (b : Bool) {n i : Nat} (hi : i < (digs n).length) : cb (textAt b n i) ++ [Value.int .u8 (dg (digs n) ((digs n).length - 1 - i) + 48)] = cb (textAt b n (i + 1)) := by
 rw [dg_byte]
 unfold cb textAt
 have hl : i < (digs n).reverse.length := by rw [List.length_reverse]; exact hi
 have hg : (digs n).reverse[i] = (digs n).getD ((digs n).length - 1 - i) 0 := by
  rw [List.getElem_reverse, List.getD_eq_getElem?_getD, List.getElem?_eq_getElem (by omega)]
  rfl
 rw [List.take_succ_eq_append_getElem hl, hg]
 simp only [List.map_append, List.append_assoc, List.map_cons, List.map_nil]
theorem cells_cb {w : World} {base g cap : Nat} {e : TypeId} {l : List UInt8} (h : w.ownsRow base e 1 (.slice (some ⟨g, 0, none⟩) l.length cap) l.length (cb l)) :
 ∀ j (hj : j < l.length), w.cell? ((⟨g, 0, none⟩ : Addr).add j) = some (.int .u8 (l[j].toNat : Int)) := by
 intro j hj
 rw [Addr.add_lit, Nat.zero_add, h.cellAt j (by omega)]
 unfold cb
 rw [List.getElem?_map, List.getElem?_eq_getElem hj]
 rfl

theorem conv_back (w : World) (g cap K : Nat) (base : Nat) (l : List UInt8) (hK : l.length = K) (h : w.ownsRow base 5 1 (.slice (some ⟨g, 0, none⟩) K cap) K (cb l)) :
 (convert 187 9 (.slice (some ⟨g, 0, none⟩) K cap)).run Tryz.prog w = .ok (.string (BA l)) w := by
 subst hK
 exact run_convert_bytes_back w 187 9 5 ⟨g, 0, none⟩ cap l Tryz.underlying187 Tryz.underlying5 Tryz.underlying9 (cells_cb h)

theorem make8cap (n : Nat) (x : Int) (hx : x = (n : Int)) (hn : n ≤ 10000000000) :
 ∃ C : Array Value, C.size = n ∧ ∀ w : World, (Instr.makeSlice 187 (.int .i64 0) (.int .i64 x)).run Tryz.prog w = .ok (.slice (some ⟨w.heap.size, 0, none⟩) 0 n) (w.alloc (.cells C 5)) := by
 subst hx
 obtain ⟨i0, hi, hz0, hz1, hz2⟩ := info_parts info8
 refine ⟨madeCells #[.int .u8 0] n, size_madeCells _ _, fun w => ?_⟩
 have h := run_make (P := Tryz.prog) w 187 5 i0 (.int .u8 0) Tryz.underlying187 hi hz0 .i64 .i64 0 n (Int.le_refl _) (by omega) (by rw [hz2]; omega) (by omega)
 rw [hz1, Int.toNat_natCast, Nat.mul_one] at h
 exact h

theorem made_at (w : World) (o : Obj) (C : Array Value) (n : Nat) (hC : C.size = n) (hn : n ≤ 10000000000) :
 ((w.alloc o).alloc (.cells C 5)).ownsRow w.heap.size 5 1 (.slice (some ⟨w.heap.size + 1, 0, none⟩) 0 n) 0 [] := by
 have h := World.ownsRow_made (w.alloc o) C n (e := 5) (size := 1) (base := w.heap.size) (by simp) (by unfold maxLen; omega) (by omega)
 have e : (w.alloc o).heap.size = w.heap.size + 1 := by simp
 rw [e] at h
 exact h
theorem cell_one_at (W : World) (x : Value) (t : TypeId) (g : Nat) (hg : g = W.heap.size) : ∀ j u, [x][j]? = some u → (W.alloc (.cells #[x] t)).cell? ((⟨g, 0, none⟩ : Addr).add j) = some u := by
 subst hg
 exact cell_one_new W x t
theorem one_mem (x : Int) (k : IntKind) : ∀ u ∈ [Value.int k x], u.oneCell' = true := by
 intro u hu
 rw [List.mem_singleton] at hu
 subst hu
 rfl
def BoxIs (w : World) (g : Nat) (u v : Value) : Prop := w.heap[g]? = some (.cells #[u, v] 221 (0, 0))
theorem BoxIs.new (w : World) (u v : Value) : BoxIs (w.alloc (.cells #[u, v] 221)) w.heap.size u v := heap_alloc_new w _
theorem BoxIs.lt {w : World} {g : Nat} {u v : Value} (h : BoxIs w g u v) : g < w.heap.size := by
 rcases Nat.lt_or_ge g w.heap.size with hlt | hge
 · exact hlt
 · unfold BoxIs at h; rw [Array.getElem?_eq_none hge] at h; cases h
theorem BoxIs.alloc {w : World} {g : Nat} {u v : Value} (h : BoxIs w g u v) (o : Obj) : BoxIs (w.alloc o) g u v := (Below.heap_alloc w o g h.lt).trans h
theorem BoxIs.grown {w w' : World} {g : Nat} {u v : Value} (h : BoxIs w g u v) {row : Option Nat} (hg : w.grownBy w' row) (hne : some g ≠ row) : BoxIs w' g u v := (hg.block g h.lt hne).trans h
theorem BoxIs.below {w w' : World} {g B : Nat} {u v : Value} (h : BoxIs w g u v) (hb : Below B w w') (hg : g < B) : BoxIs w' g u v := (hb.block g hg).trans h
theorem BoxIs.cell0 {w : World} {g : Nat} {u v : Value} (h : BoxIs w g u v) : w.cell? ⟨g, 0, none⟩ = some u := by rw [cell_of_row w g 0 _ _ (0, 0) h]; rfl
theorem BoxIs.cell1 {w : World} {g : Nat} {u v : Value} (h : BoxIs w g u v) : w.cell? ⟨g, 1, none⟩ = some v := by rw [cell_of_row w g 1 _ _ (0, 0) h]; rfl

theorem text_zero (b : Bool) (A : Option Addr) (c : Nat) (w : World) :
 Calls Tryz.prog 201 #[.agg #[.bool b, .slice A 0 c]] w fun e w' => e = .returned (.string (BA (signText b 0))) ∧ Below w.heap.size w w' := by
 go_enter Tryz.func201, Tryz.ntmps201
 go_wp2
 go_ret
 refine ⟨?_, (Below.refl _ _).alloc (Nat.le_refl _) _⟩
 cases b <;> rfl

theorem text_pos (b : Bool) (A : Option Addr) (n a c : Nat) (w : World) (ha : LenIs n a) (hn : n ≠ 0) (h9 : a ≤ 1000000000) (h : Reads w w.heap.size .u8 A (digs n)) :
 Calls Tryz.prog 201 #[.agg #[.bool b, .slice A a c]] w fun e w' => e = .returned (.string (BA (signText b n))) ∧ Below w.heap.size w w' := by
 have ha1 : 0 < a := by rw [← show (digs n).length = a from ha]; exact List.length_pos_iff.2 (digs_ne_nil hn)
 have hz : ((a : Int) == 0) = false := by rw [beq_eq_false_iff_ne]; omega
 obtain ⟨C, hC, hmk⟩ := make8cap (a + 1) ((a : Int) + 1) rfl (by omega)
 replace hC := qh9 hC
 obtain ⟨i0, hi, hz0, hz1, hz2⟩ := info_parts info8
 replace hi := qh9 hi
 replace hz1 := qh9 hz1
 clear hz0 hz2
 cases b
 · go_enter Tryz.func201, Tryz.ntmps201
   go_wp2
   clear hmk
   go_loopw [3, 22] (fun u v wr => ∃ i : Nat, i ≤ a ∧ v = .int .i64 i ∧ u = .slice (some ⟨w.heap.size + 1, 0, none⟩) (i) (a + 1) ∧ Hid (wr.ownsRow w.heap.size 5 1 (.slice (some ⟨w.heap.size + 1, 0, none⟩) (i) (a + 1)) (i) (cb (textAt false n i))) ∧ Hid (BoxIs wr w.heap.size (.bool false) (.slice A a c)) ∧ Hid (Below w.heap.size w wr)) (fun _ v _ => a - (intOf v).toNat)
   case atStart => exact ⟨0, Nat.zero_le _, rfl, rfl, (by show World.ownsRow _ _ _ _ _ _ (cb (textAt false n 0)); rw [textAt_zero]; exact made_at w _ C (a + 1) hC.out (by omega)), (BoxIs.new w _ _).alloc _, ((Below.refl _ _).alloc (Nat.le_refl _) _).alloc (by simp) _⟩
   case round =>
    clear hC
    obtain ⟨i, hin, rfl, rfl, hown, hbox, hbel⟩ := hrel
    have hf1 := hbox.out.cell1
    by_cases hia : i < a
    · obtain ⟨b1, o1, rfl, hB1, hcell1⟩ := (h.below hbel.out) (by unfold LenIs at ha; omega)
      replace hcell1 := hcell1 (a - 1 - i) (by unfold LenIs at ha; omega)
      have x0 := dg_nonneg (digs n) (a - 1 - i)
      have x1 := dg_lt (allDig_digs n) (a - 1 - i)
      have hgs : w.heap.size + 1 < wr.heap.size := (hown.out.lt _ rfl).2
      have hnew := qh9 (cell_one_new wr (.int .u8 (dg (digs n) (a - 1 - i) + 48)) 5)
      go_wp2_with (at_builtin; refine wpList_append_fits _ rfl (.tmp 25) (.tmp 37) 187 rfl w.heap.size 5 i0 1 Tryz.underlying187 hi.out hz1.out (w.heap.size + 1) (i) (a + 1) (cb (textAt false n i)) rfl (hown.out.alloc _) ⟨wr.heap.size, 0, none⟩ 1 1 [.int .u8 (dg (digs n) (a - 1 - i) + 48)] rfl rfl hnew.out ?h3 ?h4 ?_)
      case h3 => exact one_mem _ _
      case h4 => omega
      intro w1 hown1 hg1
      have hstep := textAt_step false (n := n) (i := i) (by unfold LenIs at ha; omega)
      rw [show (digs n).length = a from ha] at hstep
      rw [hstep] at hown1
      clear hstep
      have hbox1 : Hid (BoxIs w1 w.heap.size (.bool false) (.slice (some ⟨b1, o1, none⟩) a c)) := (hbox.out.alloc _).grown hg1 (by simp)
      have hbel1 : Hid (Below w.heap.size w w1) := (hbel.out.alloc (by omega) _).grown hg1 (by simp; omega) (fun k hk => by injection hk with hk; omega)
      replace hown1 := qh9 hown1
      replace hg1 := qh9 hg1
      clear hown hbox hbel
      go_wp2
      go_roundw
      case rel => exact ⟨i + 1, by omega, by go_num, rfl, hown1, hbox1, hbel1⟩
      case measure => simp [intOf]; omega
    · obtain rfl : i = a := by omega
      have hconv := conv_back wr (w.heap.size + 1) (i + 1) (i) w.heap.size (textAt false n i) (by rw [textAt_length false n i (by unfold LenIs at ha; omega)]; simp) hown.out
      have hte := qh9 (textAt_end false (n := n) (i := i) ha hn)
      go_wp2
      go_ret
      exact ⟨ret_string (by rw [hte.out]), hbel.out⟩
 · go_enter Tryz.func201, Tryz.ntmps201
   have hmade := qh9 ((made_at w (.cells #[.bool true, .slice A a c] 221) C (a + 1) hC.out (by omega)).alloc (.cells #[.int .u8 45] 5))
   have hone := qh9 (cell_one_at ((w.alloc (.cells #[.bool true, .slice A a c] 221)).alloc (.cells C 5)) (.int .u8 45) 5 (w.heap.size + 2) (by simp))
   go_wp2_with (at_builtin; refine wpList_append_fits _ rfl (.tmp 16) (.tmp 17) 187 rfl w.heap.size 5 i0 1 Tryz.underlying187 hi.out hz1.out (w.heap.size + 1) 0 (a + 1) [] rfl hmade.out ⟨w.heap.size + 2, 0, none⟩ 1 1 [.int .u8 45] rfl rfl hone.out (one_mem _ _) ?h4 ?_)
   case h4 => omega
   intro w1 hown1 hg1
   have hbox1 : Hid (BoxIs w1 w.heap.size (.bool true) (.slice A a c)) := (((BoxIs.new w _ _).alloc _).alloc _).grown hg1 (by simp)
   have hbel1 : Hid (Below w.heap.size w w1) := ((((Below.refl _ _).alloc (Nat.le_refl _) _).alloc (by simp) _).alloc (by simp; omega) _).grown hg1 (by simp; omega) (fun k hk => by injection hk with hk; omega)
   have hown2 : Hid (w1.ownsRow w.heap.size 5 1 (.slice (some ⟨w.heap.size + 1, 0, none⟩) 1 (a + 1)) 1 (cb (textAt true n 0))) := by
    show World.ownsRow _ _ _ _ _ _ (cb (textAt true n 0))
    rw [textAt_zero]
    exact hown1
   clear hmade hone hown1 hg1 hC
   have hf1 := hbox1.out.cell1
   go_wp2
   clear hmk hf1
   go_loopw [3, 22] (fun u v wr => ∃ i : Nat, i ≤ a ∧ v = .int .i64 i ∧ u = .slice (some ⟨w.heap.size + 1, 0, none⟩) (i + 1) (a + 1) ∧ Hid (wr.ownsRow w.heap.size 5 1 (.slice (some ⟨w.heap.size + 1, 0, none⟩) (i + 1) (a + 1)) (i + 1) (cb (textAt true n i))) ∧ Hid (BoxIs wr w.heap.size (.bool true) (.slice A a c)) ∧ Hid (Below w.heap.size w wr)) (fun _ v _ => a - (intOf v).toNat)
   case atStart => exact ⟨0, Nat.zero_le _, rfl, rfl, hown2, hbox1, hbel1⟩
   case round =>
    clear hown2 hbox1 hbel1
    obtain ⟨i, hin, rfl, rfl, hown, hbox, hbel⟩ := hrel
    have hf1 := hbox.out.cell1
    by_cases hia : i < a
    · obtain ⟨b1, o1, rfl, hB1, hcell1⟩ := (h.below hbel.out) (by unfold LenIs at ha; omega)
      replace hcell1 := hcell1 (a - 1 - i) (by unfold LenIs at ha; omega)
      have x0 := dg_nonneg (digs n) (a - 1 - i)
      have x1 := dg_lt (allDig_digs n) (a - 1 - i)
      have hgs : w.heap.size + 1 < wr.heap.size := (hown.out.lt _ rfl).2
      have hnew := qh9 (cell_one_new wr (.int .u8 (dg (digs n) (a - 1 - i) + 48)) 5)
      go_wp2_with (at_builtin; refine wpList_append_fits _ rfl (.tmp 25) (.tmp 37) 187 rfl w.heap.size 5 i0 1 Tryz.underlying187 hi.out hz1.out (w.heap.size + 1) (i + 1) (a + 1) (cb (textAt true n i)) rfl (hown.out.alloc _) ⟨wr.heap.size, 0, none⟩ 1 1 [.int .u8 (dg (digs n) (a - 1 - i) + 48)] rfl rfl hnew.out ?h3 ?h4 ?_)
      case h3 => exact one_mem _ _
      case h4 => omega
      intro w1 hown1 hg1
      have hstep := textAt_step true (n := n) (i := i) (by unfold LenIs at ha; omega)
      rw [show (digs n).length = a from ha] at hstep
      rw [hstep] at hown1
      clear hstep
      have hbox1 : Hid (BoxIs w1 w.heap.size (.bool true) (.slice (some ⟨b1, o1, none⟩) a c)) := (hbox.out.alloc _).grown hg1 (by simp)
      have hbel1 : Hid (Below w.heap.size w w1) := (hbel.out.alloc (by omega) _).grown hg1 (by simp; omega) (fun k hk => by injection hk with hk; omega)
      replace hown1 := qh9 hown1
      replace hg1 := qh9 hg1
      clear hown hbox hbel
      go_wp2
      go_roundw
      case rel => exact ⟨i + 1, by omega, by go_num, rfl, hown1, hbox1, hbel1⟩
      case measure => simp [intOf]; omega
    · obtain rfl : i = a := by omega
      have hconv := conv_back wr (w.heap.size + 1) (i + 1) (i + 1) w.heap.size (textAt true n i) (by rw [textAt_length true n i (by unfold LenIs at ha; omega)]; simp; omega) hown.out
      have hte := qh9 (textAt_end true (n := n) (i := i) ha hn)
      go_wp2
      go_ret
      exact ⟨ret_string (by rw [hte.out]), hbel.out⟩
end Go.Proofs.YtinjhnnpbejccaaGreatDoor
