import Derived.Test.YtinjhnnpbejccaaGreatDoorAl
import Derived.Test.YtinjhnnpbejccaaGreatDoorG3
import Derived.Deep.OwnRows
namespace Go.Proofs.YtinjhnnpbejccaaGreatDoor
open Go Go.RowKit
set_option linter.unusedVariables false
set_option maxHeartbeats 32000000
set_option maxRecDepth 100000
theorem make8 (n : Nat) (x : Int) (hx : x = (n : Int)) (hn : n ≤ 10000000000) (w : World) :
 (Instr.makeSlice 187 (.int .i64 x) (.int .i64 x)).run Tryz.prog w = .ok (.slice (some ⟨w.heap.size, 0, none⟩) n n) (w.alloc (.cells (rowOf .u8 (zeros n)) 5)) := by
 subst hx
 rw [run_make_row' (P := Tryz.prog) 187 5 (.int .u8 0) 1 Tryz.underlying187 (by kernel_rfl) rfl .i64 .i64 n (by omega) (by omega) w]
 congr 3
 simp [madeCells, rowOf, zeros, List.map_replicate]
 apply Array.ext
 · simp
 · intro i h1 h2
   simp [Nat.mod_one]
theorem split_any (s : ByteArray) (w : World) (hs : s.size ≤ maxLen) :
 Calls Tryz.prog 197 #[.string s] w fun e w' => e = .returned (.tuple #[.bool (neg (LA s)), .string (BA (body (LA s)))]) ∧ w = w' := by
 cases hv : valid (LA s) with
 | false =>
  have h1 : Hid (neg (LA s) = false) := by show _ = _; unfold neg; rw [hv]; rfl
  have h2 : Hid (body (LA s) = [48]) := by show _ = _; unfold body; rw [hv]; rfl
  go_enter Tryz.func197, Tryz.ntmps197
  go_wp2_with fail
  refine (valid_any s _ hs).mono ?_
  rintro e w' ⟨rfl, rfl⟩
  go_wp2
  go_ret2
  exact ⟨by rw [h1.out, h2.out]; rfl, rfl⟩
 | true =>
  have h1 : Hid (neg (LA s) = isMinus (LA s)) := by show _ = _; unfold neg; rw [hv, Bool.true_and]
  have h2 : Hid (body (LA s) = strip (LA s)) := by show _ = _; unfold body; rw [if_pos hv]
  have h3 : decide ((BA (strip (LA s))).size < s.size) = isMinus (LA s) := by
   rw [BA_size, ← LA_length s]
   cases hm : isMinus (LA s) with
   | true =>
    have := isMinus_strip hm
    rw [decide_eq_true_eq]
    conv => rhs; rw [this]
    simp
   | false =>
    unfold strip
    rw [hm]
    simp
  have h4 : (BA (strip (LA s))).size ≤ s.size := by rw [BA_size, ← LA_length s]; exact strip_length _
  obtain ⟨t, ht⟩ : ∃ t, BA (strip (LA s)) = t := ⟨_, rfl⟩
  rw [ht] at h3 h4
  have Ht := qh9 ht
  clear ht
  go_enter Tryz.func197, Tryz.ntmps197
  go_wp2_with fail
  refine (valid_any s _ hs).mono ?_
  rintro e w' ⟨rfl, rfl⟩
  go_wp2_with fail
  refine (trimMinus s _ hs).mono ?_
  rintro e w' ⟨rfl, rfl⟩
  rw [Ht.out]
  go_wp2
  go_ret2
  exact ⟨by rw [h1.out, h2.out, Ht.out]; rfl, rfl⟩
def RetZ (w : World) (b : Bool) (n : Nat) (e : Ending) (w' : World) : Prop :=
 ∃ A c, e = .returned (.agg #[.bool b, .slice A (digs n).length c]) ∧ (digs n).length ≤ c ∧ Reads w' w'.heap.size .u8 A (digs n) ∧ Below w.heap.size w w'
def fillTop (ds : List Nat) (j : Nat) : List Nat := zeros j ++ ds.drop j
theorem fillTop_length {ds : List Nat} {j : Nat} (h : j ≤ ds.length) : (fillTop ds j).length = ds.length := by
 unfold fillTop
 rw [List.length_append, zeros_length, List.length_drop]; omega
theorem fillTop_start (ds : List Nat) : fillTop ds ds.length = zeros ds.length := by
 unfold fillTop
 rw [List.drop_length, List.append_nil]
theorem fillTop_end (ds : List Nat) : fillTop ds 0 = ds := by unfold fillTop zeros; simp
theorem fillTop_step {ds : List Nat} {j : Nat} (h : j < ds.length) : (fillTop ds (j + 1)).set j (ds.getD j 0) = fillTop ds j := by
 unfold fillTop zeros
 apply List.ext_getElem?
 intro i
 rw [List.getElem?_set, List.getElem?_append, List.getElem?_append, List.length_append, List.length_replicate, List.length_replicate, List.getElem?_drop, List.getElem?_drop, List.length_drop, List.getElem?_replicate, List.getElem?_replicate]
 have hj : ds[j]? = some (ds.getD j 0) := by rw [List.getD_eq_getElem?_getD, List.getElem?_eq_getElem h]; rfl
 by_cases e : j = i
 · subst e
   rw [if_pos rfl, if_pos (by omega), if_neg (by omega), Nat.sub_self, Nat.add_zero, hj]
 · rw [if_neg e]
   by_cases h1 : i < j
   · rw [if_pos (by omega), if_pos h1, if_pos (by omega), if_pos h1]
   · rw [if_neg (by omega), if_neg (by omega)]
     congr 1
     omega

theorem toDigs_get {t : ByteArray} {i : Nat} (h : i < t.size) : (toDigs (LA t)).getD (t.size - 1 - i) 0 = t[i].toNat - 48 := by
 unfold toDigs
 have hl : (LA t).length = t.size := LA_length t
 rw [List.getD_eq_getElem?_getD, List.getElem?_map, List.getElem?_reverse (by omega), show (LA t).length - 1 - (t.size - 1 - i) = i from by omega, LA_get t i h]
 rfl
theorem toDigs_length (l : List UInt8) : (toDigs l).length = l.length := by unfold toDigs; simp
theorem isDig_at {t : ByteArray} {i : Nat} (h : i < t.size) (hd : (LA t).all isDig = true) : isDig t[i] = true := by
 have h1 := LA_get t i h
 exact List.all_eq_true.1 hd _ (List.mem_of_getElem? h1)
def Box (w : World) (g : Nat) : Prop := ∃ u v, w.heap[g]? = some (.cells #[u, v] 221 (0, 0))
theorem Box.new (w : World) : Box (w.alloc (.cells #[.bool false, .slice none 0 0] 221)) w.heap.size := ⟨_, _, heap_alloc_new w _⟩
theorem Box.lt {w : World} {g : Nat} (h : Box w g) : g < w.heap.size := by
 obtain ⟨u, v, h⟩ := h
 rcases Nat.lt_or_ge g w.heap.size with hlt | hge
 · exact hlt
 · rw [Array.getElem?_eq_none hge] at h; cases h
theorem Box.mem {w w' : World} {g : Nat} (h : Box w g) (hb : w'.heap[g]? = w.heap[g]?) : Box w' g := by
 obtain ⟨u, v, h⟩ := h
 exact ⟨u, v, hb.trans h⟩
theorem Box.alloc {w : World} {g : Nat} (h : Box w g) (o : Obj) : Box (w.alloc o) g := h.mem (Below.heap_alloc w o g h.lt)
theorem Box.far {w : World} {g : Nat} (h : Box w g) {p : Addr} (hp : g ≠ p.block) (u : Value) : Box (w.setCell p u) g := h.mem (Below.heap_setCell w p u g hp)
theorem Box.cell0 {w : World} {g : Nat} (h : Box w g) : ∃ u, w.cell? ⟨g, 0, none⟩ = some u := by
 obtain ⟨u, v, h⟩ := h
 exact ⟨u, by rw [cell_of_row w g 0 _ _ (0, 0) h]; rfl⟩
theorem Box.cell1 {w : World} {g : Nat} (h : Box w g) : ∃ u, w.cell? ⟨g, 1, none⟩ = some u := by
 obtain ⟨u, v, h⟩ := h
 exact ⟨v, by rw [cell_of_row w g 1 _ _ (0, 0) h]; rfl⟩
theorem Box.frozen {w : World} {g : Nat} (h : Box w g) (j : Nat) : w.frozen? ⟨g, j, none⟩ = false := by
 obtain ⟨u, v, h⟩ := h
 simp [World.frozen?, h]

theorem Box.set0 {w : World} {g : Nat} (h : Box w g) (u : Value) : (w.setCell ⟨g, 0, none⟩ u).cell? ⟨g, 0, none⟩ = some u := by
 obtain ⟨x, h0⟩ := h.cell0
 exact World.cell?_setCell_same' w ⟨g, 0, none⟩ u (by rw [h0]; rfl)
theorem Box.set1 {w : World} {g : Nat} (h : Box w g) (u v : Value) : ((w.setCell ⟨g, 0, none⟩ u).setCell ⟨g, 1, none⟩ v).cell? ⟨g, 1, none⟩ = some v := by
 obtain ⟨x, h1⟩ := h.cell1
 refine World.cell?_setCell_same' _ ⟨g, 1, none⟩ v ?_
 rw [World.cell?_setCell_other _ _ _ _ (by simp), h1]
 rfl

theorem parse_start (w : World) (t : ByteArray) : Row ((w.alloc (.cells #[.bool false, .slice none 0 0] 221)).alloc (.cells (rowOf .u8 (zeros t.size)) 5)) (w.heap.size + 1) 5 .u8 (fillTop (toDigs (LA t)) (t.size - 0)) := by
 have h := Row.new (w.alloc (.cells #[.bool false, .slice none 0 0] 221)) 5 .u8 (zeros t.size)
 have e : (w.alloc (.cells #[.bool false, .slice none 0 0] 221)).heap.size = w.heap.size + 1 := by simp
 rw [e] at h
 rw [Nat.sub_zero, show t.size = (toDigs (LA t)).length from by rw [toDigs_length, LA_length], fillTop_start, ← show t.size = (toDigs (LA t)).length from by rw [toDigs_length, LA_length]]
 exact h

theorem parse_any (s : ByteArray) (w : World) (hs : s.size ≤ 1000000000) :
 Calls Tryz.prog 200 #[.string s] w (RetZ w (neg (LA s)) (mag (LA s))) := by
 obtain ⟨t, ht⟩ : ∃ t, BA (body (LA s)) = t := ⟨_, rfl⟩
 have hbt : Hid (body (LA s) = LA t) := by show _ = _; rw [← ht]; rfl
 have hts : t.size ≤ 1000000000 := by
  have := body_length (LA s)
  rw [hbt.out, LA_length, LA_length] at this
  omega
 have hall : Hid ((LA t).all isDig = true) := by show _ = _; rw [← hbt.out]; exact body_all _
 have hmg : Hid (ofD (toDigs (LA t)) = mag (LA s)) := by show _ = _; unfold mag; rw [hbt.out]
 have Ht := qh9 ht
 clear ht
 obtain ⟨N, hN⟩ : ∃ b, neg (LA s) = b := ⟨_, rfl⟩
 rw [hN]
 have HN := qh9 hN
 clear hN
 go_enter Tryz.func200, Tryz.ntmps200
 go_wp2_with fail
 refine (split_any s _ (by unfold maxLen; omega)).mono ?_
 rintro e w' ⟨rfl, rfl⟩
 rw [Ht.out, HN.out]
 have hmk := make8 t.size (t.size : Int) rfl (by omega)
 go_wp2
 clear hmk
 go_loopw [17] (fun v wr => ∃ i : Nat, i ≤ t.size ∧ v = .int .i64 i ∧ Row wr (w.heap.size + 1) 5 .u8 (fillTop (toDigs (LA t)) (t.size - i)) ∧ Hid (Box wr w.heap.size) ∧ Below w.heap.size w wr) (fun v _ => t.size - (intOf v).toNat)
 case atStart => exact ⟨0, Nat.zero_le _, rfl, parse_start w t, Box.alloc (Box.new w) _, ((Below.refl _ _).alloc (Nat.le_refl _) _).alloc (by simp) _⟩
 case round =>
  obtain ⟨i, hi, rfl, hrow, hbox, hbel⟩ := hrel
  have hlt := hrow.lt
  by_cases hit : i < t.size
  · obtain ⟨b1, b2⟩ := (isDig_iff _).1 (isDig_at hit hall.out)
    have hst := hrow.cell (t.size - 1 - i) (by rw [fillTop_length (by rw [toDigs_length, LA_length]; omega), toDigs_length, LA_length]; omega)
    have hfz := hrow.frozen (t.size - 1 - i)
    have hrow2 := hrow.set_ (t.size - 1 - i) ((toDigs (LA t)).getD (t.size - 1 - i) 0) (((t[i]'hit).toNat : Int) - 48) (by rw [toDigs_get hit]; omega)
    rw [show t.size - i = (t.size - 1 - i) + 1 from by omega, fillTop_step (by rw [toDigs_length, LA_length]; omega), show t.size - 1 - i = t.size - (i + 1) from by omega] at hrow2
    rw [← show t.size - 1 - i = t.size - (i + 1) from by omega] at hrow2
    have hbox2 : Hid (Box (wr.setCell ⟨w.heap.size + 1, t.size - 1 - i, none⟩ (.int .u8 (((t[i]'hit).toNat : Int) - 48))) w.heap.size) := Box.far hbox.out (by simp) _
    have hbel2 := hbel.setCell (p := ⟨w.heap.size + 1, t.size - 1 - i, none⟩) (by simp) (.int .u8 (((t[i]'hit).toNat : Int) - 48))
    replace hrow2 := qh9 hrow2
    replace hbel2 := qh9 hbel2
    clear hrow hbel hbox
    go_wp2
    go_roundw
    case rel => exact ⟨i + 1, by omega, by go_num, by rw [show t.size - (i + 1) = t.size - 1 - i from by omega]; exact hrow2.out, hbox2, hbel2.out⟩
    case measure => simp [intOf]; omega
  · obtain rfl : i = t.size := by omega
    rw [Nat.sub_self, fillTop_end] at hrow
    have hR := hrow.reads hlt
    obtain ⟨x0, hb0⟩ := Box.cell0 hbox.out
    obtain ⟨x1, hb1⟩ := Box.cell1 hbox.out
    have hf0 := Box.frozen hbox.out 0
    have hf1 := Box.frozen hbox.out 1
    have hlen : Hid ((toDigs (LA t)).length = t.size) := by show _ = _; rw [toDigs_length, LA_length]
    have hdig : Hid (AllDig (toDigs (LA t))) := allDig_toDigs hall.out
    have hbel2 : Hid (Below w.heap.size w wr) := hbel
    have hrow2 := qh9 hrow
    clear hrow hbel
    go_wp2_with fail
    refine (trim_any _ (toDigs (LA t)) (mag (LA s)) t.size t.size _ _ hmg.out hlen.out hR hdig.out (Nat.le_refl _) (by omega)).mono ?_
    rintro e w3 ⟨rfl, rfl⟩
    go_wp2
    refine bodyPost_ret (v := .agg #[.bool N, .slice (some ⟨w.heap.size + 1, 0, none⟩) (digs (mag (LA s))).length t.size]) ?_ rfl ?_
    · have c0 := hbox.out.set0 (.bool N)
      have c1 := hbox.out.set1 (.bool N) (.slice (some ⟨w.heap.size + 1, 0, none⟩) (digs (mag (LA s))).length t.size)
      simp [results, Tryz.results200, go_sem, c0, c1]
    · refine ⟨_, _, rfl, ?_, ?_, ?_⟩
      · have := ofD_lt hdig.out
        rw [hmg.out, hlen.out] at this
        exact digs_length_le this
      · have hr3 := (hrow2.out.far (p := ⟨w.heap.size, 0, none⟩) (by simp) (.bool N)).far (p := ⟨w.heap.size, 1, none⟩) (by simp) (.slice (some ⟨w.heap.size + 1, 0, none⟩) (digs (mag (LA s))).length t.size)
        exact (hr3.reads hr3.lt).of_digs hdig.out hmg.out
      · exact (hbel2.out.setCell (p := ⟨w.heap.size, 0, none⟩) (Nat.le_refl _) _).setCell (p := ⟨w.heap.size, 1, none⟩) (Nat.le_refl _) _
end Go.Proofs.YtinjhnnpbejccaaGreatDoor
