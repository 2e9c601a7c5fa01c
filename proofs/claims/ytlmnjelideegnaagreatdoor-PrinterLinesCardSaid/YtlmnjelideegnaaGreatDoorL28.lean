import Derived.Test.YtlmnjelideegnaaGreatDoorCl
import Derived.Test.YtlmnjelideegnaaGreatDoorL14
import Derived.Test.YtlmnjelideegnaaGreatDoorL27
import Derived.Lib.AppendStr
import Derived.Test.YtlmnjelideegnaaGreatDoorL12
import Derived.Test.YtlmnjelideegnaaGreatDoorL26
import Derived.Test.YtlmnjelideegnaaGreatDoorL24
import Derived.Test.YtlmnjelideegnaaGreatDoorL23
import Derived.Lib.LaidTab
namespace Go.Proofs.YtlmnjelideegnaaGreatDoor
open Go Go.RowKit
set_option linter.unusedVariables false
set_option maxHeartbeats 32000000
set_option maxRecDepth 100000
/-- A string appended to bytes of the call's own. -/
theorem appStr5 {ops : Array Oper} {rest : List Oper} {o : Oper} {a : Act} {w : World} {Q : Exit → Act → World → Prop} (hgd : o.guard = none) (sl x : Operand)
 (ho : o.op = .call { callee := .builtin .append, args := #[sl, x], argTypes := #[82, 9] }) {B : Nat} {v : Value} {l : List UInt8} (hs : a.eval sl = v) (hown : OwnB w B v l) (s : ByteArray) (hx : a.eval x = .string s)
 (hl : l.length + s.size ≤ 1000000000000) (hB : B ≤ w.heap.size)
 (h : ∀ v' w', OwnB w' B v' (l ++ LA s) → Kp5 B w w' → wpList Tryz.prog ops Q rest (a.put o.dst v') w') : wpList Tryz.prog ops Q (o :: rest) a w := by
 obtain ⟨i0, hi, hz0, hz1, hz2⟩ := info_parts info8
 refine Lib.wpList_append_own_string w hgd sl x 82 9 ho B 5 i0 Tryz.underlying82 Tryz.underlying9 hi hz0 hz1 hz2 v l.length (cb l) hs hown.row s hx (by unfold maxLen; omega) (by omega) hB ?_
 intro v' w' h1 h2 _
 have h3 : Lib.strCells s = cb (LA s) := rfl
 rw [h3, ← cb_append5] at h1
 exact h v' w' (OwnB.of_cells h1) (hown.grown5 h2 hB)
theorem OwnB.iter_ {w : World} {B : Nat} {v : Value} {l : List UInt8} (h : OwnB w B v l) {k : Nat} {s : ByteArray} {pos : Nat} (hk : w.heap[k]? = some (.stringIter s pos)) (pos' : Nat) : OwnB (w.iterAt k s pos') B v l := by
 refine ⟨h.1, ?_⟩
 rcases h.2 with hn | ⟨g, cap, cur, rfl, h1, hh, h2⟩
 · exact .inl hn
 · refine .inr ⟨g, cap, cur, rfl, h1, (Lib.iterAt_other w k g s pos' ?_).trans hh, h2⟩
   rintro rfl
   rw [hk] at hh
   cases hh
theorem OwnB.alloc_ {w : World} {B : Nat} {v : Value} {l : List UInt8} (h : OwnB w B v l) (o : Obj) : OwnB (w.alloc o) B v l := h.kept5 (below_al w o)
/-- In the loop: the iterator's place p; what is written of what is looked at. -/
structure EncW (w wr : World) (s : ByteArray) (m : UInt8) (p j d : Nat) (sl : Value) (acc : List UInt8) : Prop where
 it : wr.heap[w.heap.size + 1]? = some (.stringIter s p)
 own : OwnB wr w.heap.size sl acc
 bel : Below w.heap.size w wr
 inv : EncI m (LA s) acc d j
theorem EncW.next {w wr : World} {s : ByteArray} {m : UInt8} {p j d : Nat} {sl : Value} {acc : List UInt8} (h : EncW w wr s m p j d sl acc) (p' : Nat) : EncW w (wr.iterAt (w.heap.size + 1) s p') s m p' j d sl acc :=
 ⟨Lib.iterAt_heap _ _ _ _ _ h.it, h.own.iter_ h.it _, Lib.below_iterAt h.bel (by omega) _ _, h.inv⟩
theorem EncW.keep {w wr w' : World} {s : ByteArray} {m : UInt8} {p j d : Nat} {sl : Value} {acc : List UInt8} (h : EncW w wr s m p j d sl acc) (hb : Below wr.heap.size wr w') : EncW w w' s m p j d sl acc :=
 ⟨(hb.block _ (Array.getElem?_eq_some_iff.1 h.it).1).trans h.it, h.own.kept5 hb, h.bel.trans (hb.mono h.bel.size), h.inv⟩
theorem EncW.app {w wr w' : World} {s : ByteArray} {m : UInt8} {p j d j' d' : Nat} {sl v : Value} {acc acc' : List UInt8} (h : EncW w wr s m p j d sl acc) (hk : Kp5 w.heap.size wr w') (ho : OwnB w' w.heap.size v acc') (hi : EncI m (LA s) acc' d' j') : EncW w w' s m p j' d' v acc' :=
 ⟨(hk.keep _ (Array.getElem?_eq_some_iff.1 h.it).1 (fun cur fr e => by rw [h.it] at e; cases e)).trans h.it, ho, h.bel.trans hk.bel, hi⟩
/-- None of the bytes of a rune that is not ASCII is a mark. -/
theorem high_seg (s : ByteArray) (j k : Nat) (hk : j + k ≤ s.size) (h : ∀ i (hi : i < s.size), j ≤ i → i < j + k → 128 ≤ (s[i]'hi).toNat) (m : UInt8) (hm : m.toNat < 128) : ∀ c ∈ ((LA s).drop j).take k, c ≠ m ∧ c ≠ 92 := by
 intro c hc
 obtain ⟨i, hi, rfl⟩ := List.mem_iff_getElem.1 hc
 have hi2 := hi
 rw [List.length_take, List.length_drop] at hi2
 have hij : j + i < s.size := by
  have e : (LA s).length = s.size := rfl
  omega
 have e : (((LA s).drop j).take k)[i] = s[j + i]'hij := by rw [List.getElem_take, List.getElem_drop]; rfl
 have h1 := h (j + i) hij (by omega) (by omega)
 rw [← e] at h1
 refine ⟨?_, ?_⟩
 · intro e2
   rw [e2] at h1
   omega
 · intro e2
   rw [e2] at h1
   exact absurd h1 (by decide)
theorem EncW.size {w wr : World} {s : ByteArray} {m : UInt8} {p j d : Nat} {sl : Value} {acc : List UInt8} (h : EncW w wr s m p j d sl acc) : w.heap.size ≤ wr.heap.size := h.bel.size
theorem enclose0 (s : ByteArray) (w : World) (hT : w.cell? ⟨0, 0, none⟩ = some (.string ⟨#[34, 92]⟩)) (hs : s.size ≤ 100000000) :
 Calls Tryz.prog 71 #[.int .i64 0, .string s] w (RetTU w (BA (escL 34 (LA s)))) := by
 have hgl : 0 < w.heap.size := World.block_lt_of_cell? w _ hT
 have HG := qh9 hgl
 have HT := qh9 hT
 have HS := qh9 hs
 clear hgl hs
 go_enter Tryz.func71, Tryz.ntmps71
 go_wp2
 clear hT
 go_loopw [6, 7] (fun v u wr => ∃ (j d : Nat) (acc : List UInt8) (sl : Value), sl = v ∧ u = .int .i64 (d : Int) ∧ Hid (EncW w wr s 34 j j d sl acc)) (fun _ _ wr => s.size - wr.iterPos (w.heap.size + 1))
 case atStart =>
  refine ⟨0, 0, [34], _, rfl, rfl, ?_, ?_, ?_, EncI.start _ _⟩
  · have h := World.iter_heap (w.alloc (.cells #[.int .u8 34] 5)) s 0
    have e : (w.alloc (.cells #[.int .u8 34] 5)).heap.size = w.heap.size + 1 := by simp
    rw [e] at h
    exact h
  · exact OwnB.alloc_ (OwnB.of_cells (World.ownsRow_lit w #[.int .u8 34] 1 (Nat.le_refl _) (by decide) rfl)) _
  · exact ((Below.refl _ w).alloc (Nat.le_refl _) _).alloc (by simp) _
 case round =>
  obtain ⟨j, d, acc, sl, rfl, rfl, HI⟩ := hrel
  by_cases hp : j < s.size
  · by_cases ha : (s[j]'hp).toNat < 128
    · have hnx : ∀ ty, (Instr.next (.pointer (some ⟨w.heap.size + 1, 0, none⟩)) true ty).run Tryz.prog wr = _ := fun ty => Lib.run_next_ascii_at wr (w.heap.size + 1) s j ty HI.out.it hp ha
      have HI2 := qh9 (HI.out.next (j + 1))
      go_upto_region 7 with fail
      clear hnx
      generalize wr.iterAt (w.heap.size + 1) s (j + 1) = X at HI2 ⊢
      have HSZ := qh9 HI2.out.size
      have c0 : X.cell? ⟨0, 0, none⟩ = some (.string ⟨#[34, 92]⟩) := by rw [HI2.out.bel.cell (show 0 < w.heap.size from HG.out)]; exact HT.out
      have hjl : j < (LA s).length := hp
      have hij := qh9 HI2.out.inv.1
      have hln := qh9 HI2.out.inv.len
      by_cases hc : s[j]'hp = 34 ∨ s[j]'hp = 92
      · have C : Hid (∀ Y, Calls Tryz.prog 104 #[.string ⟨#[34, 92]⟩, .int .i32 ((s[j]'hp).toNat : Int)] Y fun e w' => e = .returned (.bool true) ∧ w' = Y) := fun Y => by
         have := hasLow 34 (s[j]'hp) ha Y
         rwa [decide_eq_true hc] at this
        have hI := qh9 (HI2.out.inv.mark hjl hc)
        clear hc ha
        go_wp2_with fail
        with_reducible refine (C.out _).mono ?_
        rintro e w1 ⟨rfl, rfl⟩
        clear c0 C
        have h1 : (0 : Int) ≤ (d : Int) := by omega
        have h2 : (d : Int) ≤ (j : Int) := by have := hij.out; omega
        have h3 : (j : Int) ≤ (s.size : Int) := by omega
        have HO := qh9 HI2.out.own
        have hsz0 : (s.extract d j).size ≤ s.size := by rw [ByteArray.size_extract]; omega
        have HZ := qh9 hsz0
        clear hsz0
        go_wp2_with (at_builtin; refine appStr5 rfl (.tmp 27) (.tmp 31) rfl rfl HO.out (s.extract d j) rfl (by have := HZ.out; have := hln.out; have := HS.out; have e : (LA s).length = s.size := rfl; omega) HSZ.out ?_)
        intro v1 x1 o1 k1
        have HO1 := qh9 o1
        have K1 := qh9 k1
        have hal := qh9 (below_al x1 (.cells #[.int .u8 92] 5))
        have hnw := qh9 (show (x1.alloc (.cells #[.int .u8 92] 5)).heap[x1.heap.size]? = some (.cells #[.int .u8 ((92 : UInt8).toNat : Int)] 5 (0, 0)) from heap_alloc_new x1 _)
        have hob := qh9 (o1.kept5 hal.out)
        have HL1 : Hid ((acc ++ LA (s.extract d j)).length ≤ 1000000000000) := by
         show _ ≤ _
         rw [List.length_append]
         have := HZ.out; have := hln.out; have := HS.out
         have e : (LA s).length = s.size := rfl
         have e2 : (LA (s.extract d j)).length = (s.extract d j).size := rfl
         omega
        have HS1 := qh9 (Nat.le_trans HSZ.out k1.bel.size)
        clear o1 k1
        go_wp2_with (at_builtin; refine appByte5 rfl (.tmp 33) (.tmp 34) rfl rfl hob.out 92 x1.heap.size 1 rfl hnw.out HL1.out (Nat.le_trans HS1.out hal.out.size) ?_)
        intro v2 x2 o2 k2
        have k3 : Kp5 w.heap.size w1 x2 := K1.out.trans ((Kp5.of hal.out HS1.out).trans k2)
        have o3 : OwnB x2 w.heap.size v2 (acc ++ ((LA s).drop d).take (j - d) ++ [92]) := by
         have e : LA (s.extract d j) = ((LA s).drop d).take (j - d) := la_ext s d j
         rw [← e, List.append_assoc]
         exact o2
        have HN := qh9 (HI2.out.app k3 o3 hI.out)
        clear k2 k3 o2 o3 hal hnw hob K1 HO1
        go_wp2
        go_roundw
        case rel => exact ⟨j + 1, j, _, v2, rfl, rfl, HN⟩
        case measure =>
         simp only [World.iterPos, HN.out.it, HI.out.it]
         omega
      · have C : Hid (∀ Y, Calls Tryz.prog 104 #[.string ⟨#[34, 92]⟩, .int .i32 ((s[j]'hp).toNat : Int)] Y fun e w' => e = .returned (.bool false) ∧ w' = Y) := fun Y => by
         have := hasLow 34 (s[j]'hp) ha Y
         rwa [decide_eq_false hc] at this
        have hI : EncI 34 (LA s) acc d (j + 1) := HI2.out.inv.plain 1 hjl (fun c hcm => by
         have e1 : (LA s).drop j = (LA s)[j] :: (LA s).drop (j + 1) := (List.getElem_cons_drop hjl).symm
         rw [e1] at hcm
         replace hcm : c ∈ [(LA s)[j]'hjl] := hcm
         have e2 : c = (LA s)[j]'hjl := List.mem_singleton.1 hcm
         rw [e2]
         exact not_or.1 hc)
        have HN : Hid (EncW w X s 34 (j + 1) (j + 1) d sl acc) := ⟨HI2.out.it, HI2.out.own, HI2.out.bel, hI⟩
        clear hc ha hI
        go_wp2_with fail
        with_reducible refine (C.out _).mono ?_
        rintro e w1 ⟨rfl, rfl⟩
        clear c0 C
        go_wp2
        go_roundw
        case rel => exact ⟨j + 1, d, acc, sl, rfl, rfl, HN⟩
        case measure =>
         simp only [World.iterPos, HN.out.it, HI.out.it]
         omega
    · have hhi := decode_high s j hp (by omega)
      have hle := decode_le s j
      have hrun := dec_high s j hp (by omega)
      have hnx := fun ty => Lib.run_next_any_at (P := Tryz.prog) wr (w.heap.size + 1) s j ty HI.out.it hp
      obtain ⟨D, hD⟩ : ∃ D, Utf8.decode s j = D := ⟨_, rfl⟩
      simp only [hD] at hhi hle hrun hnx
      obtain ⟨r, k⟩ := D
      simp only at hhi hle hrun hnx
      have HI2 := qh9 (HI.out.next (j + k))
      go_upto_region 7 with fail
      clear hnx
      generalize wr.iterAt (w.heap.size + 1) s (j + k) = X at HI2 ⊢
      have c0 : X.cell? ⟨0, 0, none⟩ = some (.string ⟨#[34, 92]⟩) := by rw [HI2.out.bel.cell (show 0 < w.heap.size from HG.out)]; exact HT.out
      have C := qh9 (fun Y => hasHigh 34 (by decide) (r : Int) (by omega) (by omega) Y)
      have hI : EncI 34 (LA s) acc d (j + k) := HI2.out.inv.plain k hrun.1 (high_seg s j k hrun.1 hrun.2 34 (by decide))
      have HN : Hid (EncW w X s 34 (j + k) (j + k) d sl acc) := ⟨HI2.out.it, HI2.out.own, HI2.out.bel, hI⟩
      have hk1 := qh9 hhi.2
      clear hhi hle hrun hI HI2 hD
      go_wp2_with fail
      with_reducible refine (C.out _).mono ?_
      rintro e w1 ⟨rfl, hb⟩
      replace HN := qh9 (HN.out.keep hb)
      clear c0 C hb
      go_wp2
      go_roundw
      case rel => exact ⟨j + k, d, acc, sl, rfl, rfl, HN⟩
      case measure =>
       simp only [World.iterPos, HN.out.it, HI.out.it]
       have := hk1.out
       omega
  · have hnx : ∀ ty, (Instr.next (.pointer (some ⟨w.heap.size + 1, 0, none⟩)) true ty).run Tryz.prog wr = _ := fun ty => Lib.run_next_end_at wr (w.heap.size + 1) s j ty HI.out.it hp
    have hij := HI.out.inv.1
    have hjl : j ≤ s.size := HI.out.inv.2.1
    obtain rfl : j = s.size := by omega
    have hfin : Hid (BA (acc ++ (LA (s.extract d s.size) ++ [34])) = BA (escL 34 (LA s))) := by
     show _ = _
     rw [show LA (s.extract d s.size) = (LA s).drop d from la_extract hij, ← List.append_assoc]
     exact congrArg BA (EncI.fin HI.out.inv)
    have h1 : (0 : Int) ≤ (d : Int) := by omega
    have h2 : (d : Int) ≤ (s.size : Int) := by omega
    have HO := qh9 HI.out.own
    have HSZ := qh9 HI.out.size
    have HB := qh9 HI.out.bel
    have hln := qh9 HI.out.inv.len
    have hsz0 : (s.extract d s.size).size ≤ s.size := by rw [ByteArray.size_extract]; omega
    have HZ := qh9 hsz0
    clear hsz0 hjl hij
    go_wp2_with (at_builtin; refine appStr5 rfl (.tmp 37) (.tmp 40) rfl rfl HO.out (s.extract d s.size) rfl (by have := HZ.out; have := hln.out; have := HS.out; have e : (LA s).length = s.size := rfl; omega) HSZ.out ?_)
    intro v1 x1 o1 k1
    have K1 := qh9 k1
    have hal := qh9 (below_al x1 (.cells #[.int .u8 34] 5))
    have hnw := qh9 (show (x1.alloc (.cells #[.int .u8 34] 5)).heap[x1.heap.size]? = some (.cells #[.int .u8 ((34 : UInt8).toNat : Int)] 5 (0, 0)) from heap_alloc_new x1 _)
    have hob := qh9 (o1.kept5 hal.out)
    have HL1 : Hid ((acc ++ LA (s.extract d s.size)).length ≤ 1000000000000) := by
     show _ ≤ _
     rw [List.length_append]
     have := HZ.out; have := hln.out; have := HS.out
     have e : (LA s).length = s.size := rfl
     have e2 : (LA (s.extract d s.size)).length = (s.extract d s.size).size := rfl
     omega
    have HS1 := qh9 (Nat.le_trans HSZ.out k1.bel.size)
    clear o1 k1 hnx
    go_wp2_with (at_builtin; refine appByte5 rfl (.tmp 42) (.tmp 44) rfl rfl hob.out 34 x1.heap.size 1 rfl hnw.out HL1.out (Nat.le_trans HS1.out hal.out.size) ?_)
    intro v2 x2 o2 k2
    have hcv := convOwn x2 w.heap.size v2 _ o2
    have HB2 := qh9 (HB.out.trans (K1.out.bel.trans ((Kp5.of hal.out HS1.out).trans k2).bel))
    clear o2 k2 hal hnw hob
    go_wp2
    go_ret
    exact ⟨congrArg (fun x => Ending.returned (.string x)) hfin.out, HB2.out⟩
theorem enclose1 (s : ByteArray) (w : World) (hT : w.cell? ⟨0, 1, none⟩ = some (.string ⟨#[124, 92]⟩)) (hs : s.size ≤ 100000000) :
 Calls Tryz.prog 71 #[.int .i64 1, .string s] w (RetTU w (BA (escL 124 (LA s)))) := by
 have hgl : 0 < w.heap.size := World.block_lt_of_cell? w _ hT
 have HG := qh9 hgl
 have HT := qh9 hT
 have HS := qh9 hs
 clear hgl hs
 go_enter Tryz.func71, Tryz.ntmps71
 go_wp2
 clear hT
 go_loopw [6, 7] (fun v u wr => ∃ (j d : Nat) (acc : List UInt8) (sl : Value), sl = v ∧ u = .int .i64 (d : Int) ∧ Hid (EncW w wr s 124 j j d sl acc)) (fun _ _ wr => s.size - wr.iterPos (w.heap.size + 1))
 case atStart =>
  refine ⟨0, 0, [124], _, rfl, rfl, ?_, ?_, ?_, EncI.start _ _⟩
  · have h := World.iter_heap (w.alloc (.cells #[.int .u8 124] 5)) s 0
    have e : (w.alloc (.cells #[.int .u8 124] 5)).heap.size = w.heap.size + 1 := by simp
    rw [e] at h
    exact h
  · exact OwnB.alloc_ (OwnB.of_cells (World.ownsRow_lit w #[.int .u8 124] 1 (Nat.le_refl _) (by decide) rfl)) _
  · exact ((Below.refl _ w).alloc (Nat.le_refl _) _).alloc (by simp) _
 case round =>
  obtain ⟨j, d, acc, sl, rfl, rfl, HI⟩ := hrel
  by_cases hp : j < s.size
  · by_cases ha : (s[j]'hp).toNat < 128
    · have hnx : ∀ ty, (Instr.next (.pointer (some ⟨w.heap.size + 1, 0, none⟩)) true ty).run Tryz.prog wr = _ := fun ty => Lib.run_next_ascii_at wr (w.heap.size + 1) s j ty HI.out.it hp ha
      have HI2 := qh9 (HI.out.next (j + 1))
      go_upto_region 7 with fail
      clear hnx
      generalize wr.iterAt (w.heap.size + 1) s (j + 1) = X at HI2 ⊢
      have HSZ := qh9 HI2.out.size
      have c0 : X.cell? ⟨0, 1, none⟩ = some (.string ⟨#[124, 92]⟩) := by rw [HI2.out.bel.cell (show 0 < w.heap.size from HG.out)]; exact HT.out
      have hjl : j < (LA s).length := hp
      have hij := qh9 HI2.out.inv.1
      have hln := qh9 HI2.out.inv.len
      by_cases hc : s[j]'hp = 124 ∨ s[j]'hp = 92
      · have C : Hid (∀ Y, Calls Tryz.prog 104 #[.string ⟨#[124, 92]⟩, .int .i32 ((s[j]'hp).toNat : Int)] Y fun e w' => e = .returned (.bool true) ∧ w' = Y) := fun Y => by
         have := hasLow 124 (s[j]'hp) ha Y
         rwa [decide_eq_true hc] at this
        have hI := qh9 (HI2.out.inv.mark hjl hc)
        clear hc ha
        go_wp2_with fail
        with_reducible refine (C.out _).mono ?_
        rintro e w1 ⟨rfl, rfl⟩
        clear c0 C
        have h1 : (0 : Int) ≤ (d : Int) := by omega
        have h2 : (d : Int) ≤ (j : Int) := by have := hij.out; omega
        have h3 : (j : Int) ≤ (s.size : Int) := by omega
        have HO := qh9 HI2.out.own
        have hsz0 : (s.extract d j).size ≤ s.size := by rw [ByteArray.size_extract]; omega
        have HZ := qh9 hsz0
        clear hsz0
        go_wp2_with (at_builtin; refine appStr5 rfl (.tmp 27) (.tmp 31) rfl rfl HO.out (s.extract d j) rfl (by have := HZ.out; have := hln.out; have := HS.out; have e : (LA s).length = s.size := rfl; omega) HSZ.out ?_)
        intro v1 x1 o1 k1
        have HO1 := qh9 o1
        have K1 := qh9 k1
        have hal := qh9 (below_al x1 (.cells #[.int .u8 92] 5))
        have hnw := qh9 (show (x1.alloc (.cells #[.int .u8 92] 5)).heap[x1.heap.size]? = some (.cells #[.int .u8 ((92 : UInt8).toNat : Int)] 5 (0, 0)) from heap_alloc_new x1 _)
        have hob := qh9 (o1.kept5 hal.out)
        have HL1 : Hid ((acc ++ LA (s.extract d j)).length ≤ 1000000000000) := by
         show _ ≤ _
         rw [List.length_append]
         have := HZ.out; have := hln.out; have := HS.out
         have e : (LA s).length = s.size := rfl
         have e2 : (LA (s.extract d j)).length = (s.extract d j).size := rfl
         omega
        have HS1 := qh9 (Nat.le_trans HSZ.out k1.bel.size)
        clear o1 k1
        go_wp2_with (at_builtin; refine appByte5 rfl (.tmp 33) (.tmp 34) rfl rfl hob.out 92 x1.heap.size 1 rfl hnw.out HL1.out (Nat.le_trans HS1.out hal.out.size) ?_)
        intro v2 x2 o2 k2
        have k3 : Kp5 w.heap.size w1 x2 := K1.out.trans ((Kp5.of hal.out HS1.out).trans k2)
        have o3 : OwnB x2 w.heap.size v2 (acc ++ ((LA s).drop d).take (j - d) ++ [92]) := by
         have e : LA (s.extract d j) = ((LA s).drop d).take (j - d) := la_ext s d j
         rw [← e, List.append_assoc]
         exact o2
        have HN := qh9 (HI2.out.app k3 o3 hI.out)
        clear k2 k3 o2 o3 hal hnw hob K1 HO1
        go_wp2
        go_roundw
        case rel => exact ⟨j + 1, j, _, v2, rfl, rfl, HN⟩
        case measure =>
         simp only [World.iterPos, HN.out.it, HI.out.it]
         omega
      · have C : Hid (∀ Y, Calls Tryz.prog 104 #[.string ⟨#[124, 92]⟩, .int .i32 ((s[j]'hp).toNat : Int)] Y fun e w' => e = .returned (.bool false) ∧ w' = Y) := fun Y => by
         have := hasLow 124 (s[j]'hp) ha Y
         rwa [decide_eq_false hc] at this
        have hI : EncI 124 (LA s) acc d (j + 1) := HI2.out.inv.plain 1 hjl (fun c hcm => by
         have e1 : (LA s).drop j = (LA s)[j] :: (LA s).drop (j + 1) := (List.getElem_cons_drop hjl).symm
         rw [e1] at hcm
         replace hcm : c ∈ [(LA s)[j]'hjl] := hcm
         have e2 : c = (LA s)[j]'hjl := List.mem_singleton.1 hcm
         rw [e2]
         exact not_or.1 hc)
        have HN : Hid (EncW w X s 124 (j + 1) (j + 1) d sl acc) := ⟨HI2.out.it, HI2.out.own, HI2.out.bel, hI⟩
        clear hc ha hI
        go_wp2_with fail
        with_reducible refine (C.out _).mono ?_
        rintro e w1 ⟨rfl, rfl⟩
        clear c0 C
        go_wp2
        go_roundw
        case rel => exact ⟨j + 1, d, acc, sl, rfl, rfl, HN⟩
        case measure =>
         simp only [World.iterPos, HN.out.it, HI.out.it]
         omega
    · have hhi := decode_high s j hp (by omega)
      have hle := decode_le s j
      have hrun := dec_high s j hp (by omega)
      have hnx := fun ty => Lib.run_next_any_at (P := Tryz.prog) wr (w.heap.size + 1) s j ty HI.out.it hp
      obtain ⟨D, hD⟩ : ∃ D, Utf8.decode s j = D := ⟨_, rfl⟩
      simp only [hD] at hhi hle hrun hnx
      obtain ⟨r, k⟩ := D
      simp only at hhi hle hrun hnx
      have HI2 := qh9 (HI.out.next (j + k))
      go_upto_region 7 with fail
      clear hnx
      generalize wr.iterAt (w.heap.size + 1) s (j + k) = X at HI2 ⊢
      have c0 : X.cell? ⟨0, 1, none⟩ = some (.string ⟨#[124, 92]⟩) := by rw [HI2.out.bel.cell (show 0 < w.heap.size from HG.out)]; exact HT.out
      have C := qh9 (fun Y => hasHigh 124 (by decide) (r : Int) (by omega) (by omega) Y)
      have hI : EncI 124 (LA s) acc d (j + k) := HI2.out.inv.plain k hrun.1 (high_seg s j k hrun.1 hrun.2 124 (by decide))
      have HN : Hid (EncW w X s 124 (j + k) (j + k) d sl acc) := ⟨HI2.out.it, HI2.out.own, HI2.out.bel, hI⟩
      have hk1 := qh9 hhi.2
      clear hhi hle hrun hI HI2 hD
      go_wp2_with fail
      with_reducible refine (C.out _).mono ?_
      rintro e w1 ⟨rfl, hb⟩
      replace HN := qh9 (HN.out.keep hb)
      clear c0 C hb
      go_wp2
      go_roundw
      case rel => exact ⟨j + k, d, acc, sl, rfl, rfl, HN⟩
      case measure =>
       simp only [World.iterPos, HN.out.it, HI.out.it]
       have := hk1.out
       omega
  · have hnx : ∀ ty, (Instr.next (.pointer (some ⟨w.heap.size + 1, 0, none⟩)) true ty).run Tryz.prog wr = _ := fun ty => Lib.run_next_end_at wr (w.heap.size + 1) s j ty HI.out.it hp
    have hij := HI.out.inv.1
    have hjl : j ≤ s.size := HI.out.inv.2.1
    obtain rfl : j = s.size := by omega
    have hfin : Hid (BA (acc ++ (LA (s.extract d s.size) ++ [124])) = BA (escL 124 (LA s))) := by
     show _ = _
     rw [show LA (s.extract d s.size) = (LA s).drop d from la_extract hij, ← List.append_assoc]
     exact congrArg BA (EncI.fin HI.out.inv)
    have h1 : (0 : Int) ≤ (d : Int) := by omega
    have h2 : (d : Int) ≤ (s.size : Int) := by omega
    have HO := qh9 HI.out.own
    have HSZ := qh9 HI.out.size
    have HB := qh9 HI.out.bel
    have hln := qh9 HI.out.inv.len
    have hsz0 : (s.extract d s.size).size ≤ s.size := by rw [ByteArray.size_extract]; omega
    have HZ := qh9 hsz0
    clear hsz0 hjl hij
    go_wp2_with (at_builtin; refine appStr5 rfl (.tmp 37) (.tmp 40) rfl rfl HO.out (s.extract d s.size) rfl (by have := HZ.out; have := hln.out; have := HS.out; have e : (LA s).length = s.size := rfl; omega) HSZ.out ?_)
    intro v1 x1 o1 k1
    have K1 := qh9 k1
    have hal := qh9 (below_al x1 (.cells #[.int .u8 124] 5))
    have hnw := qh9 (show (x1.alloc (.cells #[.int .u8 124] 5)).heap[x1.heap.size]? = some (.cells #[.int .u8 ((124 : UInt8).toNat : Int)] 5 (0, 0)) from heap_alloc_new x1 _)
    have hob := qh9 (o1.kept5 hal.out)
    have HL1 : Hid ((acc ++ LA (s.extract d s.size)).length ≤ 1000000000000) := by
     show _ ≤ _
     rw [List.length_append]
     have := HZ.out; have := hln.out; have := HS.out
     have e : (LA s).length = s.size := rfl
     have e2 : (LA (s.extract d s.size)).length = (s.extract d s.size).size := rfl
     omega
    have HS1 := qh9 (Nat.le_trans HSZ.out k1.bel.size)
    clear o1 k1 hnx
    go_wp2_with (at_builtin; refine appByte5 rfl (.tmp 42) (.tmp 44) rfl rfl hob.out 124 x1.heap.size 1 rfl hnw.out HL1.out (Nat.le_trans HS1.out hal.out.size) ?_)
    intro v2 x2 o2 k2
    have hcv := convOwn x2 w.heap.size v2 _ o2
    have HB2 := qh9 (HB.out.trans (K1.out.bel.trans ((Kp5.of hal.out HS1.out).trans k2).bel))
    clear o2 k2 hal hnw hob
    go_wp2
    go_ret
    exact ⟨congrArg (fun x => Ending.returned (.string x)) hfin.out, HB2.out⟩
/-- The table of marks stands. -/
def EscT (w : World) : Prop := w.cell? ⟨0, 0, none⟩ = some (.string ⟨#[34, 92]⟩) ∧ w.cell? ⟨0, 1, none⟩ = some (.string ⟨#[124, 92]⟩)
theorem EscT.keep {w w' : World} (h : EscT w) (hb : Below w.heap.size w w') : EscT w' := by
 have hg : 0 < w.heap.size := World.block_lt_of_cell? w _ h.1
 exact ⟨by rw [hb.cell (show 0 < w.heap.size from hg)]; exact h.1, by rw [hb.cell (show 0 < w.heap.size from hg)]; exact h.2⟩
theorem LA_app (s t : ByteArray) : LA (s ++ t) = LA s ++ LA t := by
 show (s ++ t).data.toList = _
 rw [ByteArray.data_append, Array.toList_append]
 rfl
theorem scanS_small {s : ByteArray} (h : s.size ≤ 6000) : scanS s = toksL okP numP sizP s.size (LA s) := by
 unfold scanS
 rw [if_neg (by omega)]
 rfl
theorem emp_app (n : ByteArray) : (⟨#[]⟩ : ByteArray) ++ n = n := by
 apply ByteArray.ext
 rw [ByteArray.data_append]
 show #[] ++ n.data = n.data
 simp
theorem head_plain (n : ByteArray) (hn : Sy.nameOk n = true) : headSym (scanS (⟨#[]⟩ ++ n)) (LA n) = (simpleL (LA n) && !(LA n == [46] || (numL (LA n)).isSome)) := by
 obtain ⟨h1, h2⟩ := nameOk_facts (n := LA n) (by rw [BA_LA]; exact hn)
 have hz : n.size ≤ 40 := h2
 rw [emp_app, scanS_small (by omega)]
 exact isWord_plain okP numP sizP n.size (LA n) h1 h2
theorem head_qual (p n : ByteArray) (hp : Sy.pkgOk p = true) (hn : Sy.nameOk n = true) : headSym (scanS (p ++ ⟨#[58, 58]⟩ ++ n)) (LA n) = simpleL (LA n) := by
 obtain ⟨h1, h2⟩ := nameOk_facts (n := LA n) (by rw [BA_LA]; exact hn)
 obtain ⟨p1, p2, p3⟩ := pkgOk_facts (p := LA p) (by rw [BA_LA]; exact hp)
 have hz : n.size ≤ 40 := h2
 have hzp : p.size ≤ 40 := p3
 rw [scanS_small (by rw [ByteArray.size_append, ByteArray.size_append]; show p.size + 2 + n.size ≤ 6000; omega), LA_app, LA_app, List.append_assoc]
 exact isWord_qual okP numP sizP _ (LA p) (LA n) p1 p2 (by unfold okP; rw [BA_LA]; exact hp) h1 h2
/-- The text of a symbol, as bytes. -/
theorem text_plain (n : ByteArray) : BA (wordS (LA n) false) = if (simpleL (LA n) && !(LA n == [46] || (numL (LA n)).isSome)) = true then ⟨#[]⟩ ++ n else ⟨#[]⟩ ++ BA (escL 124 (LA n)) := by
 unfold wordS
 rw [Bool.false_or]
 split
 · rw [emp_app, BA_LA]
 · rw [emp_app]
theorem BA_app3 (l m : List UInt8) : BA (l ++ m) = BA l ++ BA m := by
 apply ByteArray.ext
 rw [ByteArray.data_append]
 show (l ++ m).toArray = l.toArray ++ m.toArray
 simp
theorem text_qual (p n : ByteArray) : BA (LA p ++ 58 :: 58 :: wordS (LA n) true) = if simpleL (LA n) = true then p ++ ⟨#[58, 58]⟩ ++ n else p ++ ⟨#[58, 58]⟩ ++ BA (escL 124 (LA n)) := by
 have e : LA p ++ 58 :: 58 :: wordS (LA n) true = (LA p ++ [58, 58]) ++ wordS (LA n) true := by simp
 rw [e, BA_app3, BA_app3, BA_LA]
 unfold wordS
 rw [Bool.true_or, Bool.and_true]
 split
 · rw [BA_LA]; rfl
 · rfl
/-- What Name returns. -/
def nameV (l : List Sy.Pg) (cur p n : ByteArray) : ByteArray × Int := if Sy.symOk p n = true then (if ((Sy.findM l cur).isSome && Sy.homeM l (p, n)) = true then (BA (nmU l cur (LA p) (LA n)), 0) else (⟨#[]⟩, 13)) else (⟨#[]⟩, 1)
theorem nameTextP (l : List Sy.Pg) (v : Value) (cur p n : ByteArray) (w : World) (hv : Sy.PgV w l v) (hl : l.length ≤ 1000000) (hi : ∀ q ∈ l, q.2.length ≤ 1000000) (hok : Sy.symOk p n = true) (hT : EscT w) :
 Calls Tryz.prog 36 #[v, .string cur, .agg #[.string p, .string n]] w (RetTU w (BA (nmU l cur (LA p) (LA n)))) := by
 have hok' : Sy.pkgOk p = true ∧ Sy.nameOk n = true := by unfold Sy.symOk at hok; rw [Bool.and_eq_true] at hok; exact hok
 have hzn : n.size ≤ 40 := (nameOk_facts (n := LA n) (by rw [BA_LA]; exact hok'.2)).2
 have hzp : p.size ≤ 40 := (pkgOk_facts (p := LA p) (by rw [BA_LA]; exact hok'.1)).2.2
 have CV : Hid (∀ X, Below w.heap.size w X → Calls Tryz.prog 69 #[v, .string cur, .agg #[.string p, .string n]] X (RetB X (Sy.visM l cur (p, n)))) := fun X h => Sy.visibleY l v cur p n X (hv.keep h) hl hi
 have hp1 := head_plain n hok'.2
 have hp2 := head_qual p n hok'.1 hok'.2
 have W1 : Hid (∀ X, Calls Tryz.prog 70 #[.string ⟨#[]⟩, .string n] X (RetB X (headSym (scanS (⟨#[]⟩ ++ n)) (LA n)))) := fun X => isWordP _ _ X (by show 0 + n.size ≤ 1000; omega)
 have W2 : Hid (∀ X, Calls Tryz.prog 70 #[.string (p ++ ⟨#[58, 58]⟩), .string n] X (RetB X (headSym (scanS (p ++ ⟨#[58, 58]⟩ ++ n)) (LA n)))) := fun X => isWordP _ _ X (by rw [ByteArray.size_append]; show p.size + 2 + n.size ≤ 1000; omega)
 rw [hp1] at W1
 rw [hp2] at W2
 have HE : Hid (∀ X, Below w.heap.size w X → Calls Tryz.prog 71 #[.int .i64 1, .string n] X (RetTU X (BA (escL 124 (LA n))))) := fun X h => enclose1 n X (hT.keep h).2 (by omega)
 have t1 := text_plain n
 have t2 := text_qual p n
 unfold nmU
 rw [show (BA (LA p), BA (LA n)) = (p, n) by rw [BA_LA, BA_LA]]
 generalize Sy.visM l cur (p, n) = vis at CV ⊢
 generalize (simpleL (LA n) && !(LA n == [46] || (numL (LA n)).isSome)) = b1 at W1 t1
 generalize simpleL (LA n) = b2 at W2 t2
 have z3 : ∀ k, (BA (escL 124 (LA n))).size ≤ 200 + 0 * k := fun k => by
  rw [BA_size]
  have := escL_len 124 (LA n)
  have e : (LA n).length = n.size := rfl
  omega
 have z4 := z3 0
 obtain ⟨T, hTT⟩ : ∃ T, BA (if vis = true then wordS (LA n) false else LA p ++ 58 :: 58 :: wordS (LA n) true) = T := ⟨_, rfl⟩
 rw [hTT]
 have HTT := qh9 hTT
 have T1 := qh9 t1
 have T2 := qh9 t2
 clear hTT t1 t2
 clear hp1 hp2 hT hv hok hok' z3
 have S0 := Sy.SB.new w (.string p) (.string n)
 have hb0 := below_al w (.cells #[.string p, .string n] 23)
 go_enter Tryz.func36, Tryz.ntmps36
 go_upto_region 1 with fail
 generalize w.alloc (.cells #[.string p, .string n] 23) = W at S0 hb0 ⊢
 have HW := qh9 hb0
 have BS := qh9 S0
 clear S0 hb0
 obtain ⟨s0, s1⟩ := And.intro BS.out.c0 (Sy.SB.c1 BS.out)
 go_wp2_with fail
 clear s0 s1
 with_reducible refine (CV.out _ HW.out).mono ?_
 rintro e w1 ⟨rfl, hb⟩
 replace HW := qc9 HW hb
 replace BS := qh9 (BS.out.keep hb)
 clear hb
 clear CV
 cases vis with
 | true =>
  obtain ⟨s0, s1⟩ := And.intro BS.out.c0 (Sy.SB.c1 BS.out)
  go_wp2_with fail
  clear s0 s1
  with_reducible refine (W1.out _).mono ?_
  rintro e w2 ⟨rfl, hb⟩
  replace HW := qc9 HW hb
  replace BS := qh9 (BS.out.keep hb)
  clear hb
  cases b1 with
  | true =>
   have hx : T = _ := HTT.out.symm.trans (T1.out.trans (if_pos rfl))
   clear HTT T1 T2
   subst hx
   obtain ⟨s0, s1⟩ := And.intro BS.out.c0 (Sy.SB.c1 BS.out)
   go_wp2_with fail
   clear s0 s1
   go_ret
   exact ⟨rfl, HW.out⟩
  | false =>
   have hx : T = _ := HTT.out.symm.trans (T1.out.trans (if_neg (by decide)))
   clear HTT T1 T2
   subst hx
   obtain ⟨s0, s1⟩ := And.intro BS.out.c0 (Sy.SB.c1 BS.out)
   go_wp2_with fail
   clear s0 s1
   with_reducible refine (HE.out _ HW.out).mono ?_
   rintro e w3 ⟨rfl, hb⟩
   replace HW := qc9 HW hb
   replace BS := qh9 (BS.out.keep hb)
   clear hb
   go_wp2
   go_ret
   exact ⟨rfl, HW.out⟩
 | false =>
  obtain ⟨s0, s1⟩ := And.intro BS.out.c0 (Sy.SB.c1 BS.out)
  go_wp2_with fail
  clear s0 s1
  with_reducible refine (W2.out _).mono ?_
  rintro e w2 ⟨rfl, hb⟩
  replace HW := qc9 HW hb
  replace BS := qh9 (BS.out.keep hb)
  clear hb
  cases b2 with
  | true =>
   have hx : T = _ := HTT.out.symm.trans (T2.out.trans (if_pos rfl))
   clear HTT T1 T2
   subst hx
   obtain ⟨s0, s1⟩ := And.intro BS.out.c0 (Sy.SB.c1 BS.out)
   go_wp2_with fail
   clear s0 s1
   go_ret
   exact ⟨rfl, HW.out⟩
  | false =>
   have hx : T = _ := HTT.out.symm.trans (T2.out.trans (if_neg (by decide)))
   clear HTT T1 T2
   subst hx
   obtain ⟨s0, s1⟩ := And.intro BS.out.c0 (Sy.SB.c1 BS.out)
   go_wp2_with fail
   clear s0 s1
   with_reducible refine (HE.out _ HW.out).mono ?_
   rintro e w3 ⟨rfl, hb⟩
   replace HW := qc9 HW hb
   replace BS := qh9 (BS.out.keep hb)
   clear hb
   go_wp2
   go_ret
   exact ⟨rfl, HW.out⟩
/-- In the loop: what is written of what is looked at. -/
structure EsR (w wr : World) (s : ByteArray) (m : UInt8) (j : Nat) (sl : Value) (acc : List UInt8) : Prop where
 bel : Below w.heap.size w wr
 own : OwnB wr w.heap.size sl acc
 inv : acc ++ escB m ((LA s).drop j) = m :: escB m (LA s)
theorem EsR.len {w wr : World} {s : ByteArray} {m : UInt8} {j : Nat} {sl : Value} {acc : List UInt8} (h : EsR w wr s m j sl acc) : acc.length ≤ 2 * s.size + 1 := by
 have e := congrArg List.length h.inv
 have h2 := escB_len m (LA s)
 have h3 : (LA s).length = s.size := rfl
 simp only [List.length_append, List.length_cons] at e
 omega
theorem drop_la (s : ByteArray) {j : Nat} (hj : j < s.size) : (LA s).drop j = (s[j]'hj) :: (LA s).drop (j + 1) := (List.getElem_cons_drop (show j < (LA s).length from hj)).symm
theorem EsR.esc {w wr : World} {s : ByteArray} {m : UInt8} {j : Nat} {sl : Value} {acc : List UInt8} (h : EsR w wr s m j sl acc) (hj : j < s.size) (hc : s[j]'hj = m ∨ s[j]'hj = 92) : acc ++ [92, s[j]'hj] ++ escB m ((LA s).drop (j + 1)) = m :: escB m (LA s) := by
 rw [← h.inv, drop_la s hj, escB, if_pos hc]
 simp only [List.append_assoc, List.cons_append, List.nil_append]
theorem EsR.one {w wr : World} {s : ByteArray} {m : UInt8} {j : Nat} {sl : Value} {acc : List UInt8} (h : EsR w wr s m j sl acc) (hj : j < s.size) (hc : ¬ (s[j]'hj = m ∨ s[j]'hj = 92)) : acc ++ [s[j]'hj] ++ escB m ((LA s).drop (j + 1)) = m :: escB m (LA s) := by
 rw [← h.inv, drop_la s hj, escB, if_neg hc]
 simp only [List.append_assoc, List.cons_append, List.nil_append]
theorem EsR.fin {w wr : World} {s : ByteArray} {m : UInt8} {j : Nat} {sl : Value} {acc : List UInt8} (h : EsR w wr s m j sl acc) (hj : s.size ≤ j) : acc ++ [m] = escL m (LA s) := by
 have h1 := h.inv
 rw [List.drop_of_length_le (show (LA s).length ≤ j from hj), escB, List.append_nil] at h1
 rw [h1]
 rfl
theorem escapedR (s : ByteArray) (m : UInt8) (w : World) (hs : s.size ≤ 100000000) :
 Calls Tryz.prog 77 #[.string s, .int .u8 (m.toNat : Int)] w (RetTU w (BA (escL m (LA s)))) := by
 have HS := qh9 hs
 clear hs
 go_enter Tryz.func77, Tryz.ntmps77
 go_wp2
 go_loopw [5, 6] (fun v u wr => ∃ (j : Nat) (acc : List UInt8) (sl : Value), j ≤ s.size ∧ sl = v ∧ u = .int .i64 (j : Int) ∧ Hid (EsR w wr s m j sl acc)) (fun _ u _ => s.size - (intOf u).toNat)
 case atStart =>
  refine ⟨0, [m], _, Nat.zero_le _, rfl, rfl, (Below.refl _ w).alloc (Nat.le_refl _) _, ?_, rfl⟩
  exact OwnB.of_cells (World.ownsRow_lit w #[.int .u8 (m.toNat : Int)] 1 (Nat.le_refl _) (by decide) rfl)
 case round =>
  obtain ⟨j, acc, sl, hj, rfl, rfl, HE⟩ := hrel
  obtain ⟨wo, rfl⟩ : ∃ wo : World, wo = wr := ⟨_, rfl⟩
  by_cases hp : j < s.size
  · have d2 : (0 : Int) ≤ (j : Int) ∧ (j : Int) < (s.size : Int) := by omega
    have d5 : (s.size : Int) ≤ 100000000 := by have := HS.out; omega
    by_cases h1 : s[j]'hp = m
    · have hx : (((s[j]'hp).toNat : Int) == (m.toNat : Int)) = true := by rw [byte_eq, h1]; simp
      have hc : s[j]'hp = m ∨ s[j]'hp = 92 := .inl h1
      clear h1
      have HLN := qh9 HE.out.len
      have HSZ := qh9 HE.out.bel.size
      have HB := qh9 HE.out.bel
      have HO := qh9 HE.out.own
      have HI := qh9 (HE.out.esc hp hc)
      clear hc
      have hal := qh9 (below_al wo (.cells #[.int .u8 92] 5))
      have hnw := qh9 (show (wo.alloc (.cells #[.int .u8 92] 5)).heap[wo.heap.size]? = some (.cells #[.int .u8 ((92 : UInt8).toNat : Int)] 5 (0, 0)) from heap_alloc_new wo _)
      have hob := qh9 (HO.out.kept5 hal.out)
      go_wp2_with (at_builtin; refine appByte5 rfl (.tmp 26) (.tmp 27) rfl rfl hob.out 92 wo.heap.size 1 rfl hnw.out (by have := HLN.out; have := HS.out; (try simp only [List.length_append, List.length_cons, List.length_nil]); omega) (Nat.le_trans HSZ.out hal.out.size) ?_)
      intro v1 xv1 ov1 kv1
      have Kv1 := qh9 ((Kp5.of hal.out HSZ.out).trans kv1)
      have Ov1 := qh9 ov1
      have Sv1 := qh9 (Nat.le_trans HSZ.out Kv1.out.bel.size)
      clear hal hnw hob ov1 kv1
      have hal := qh9 (below_al xv1 (.cells #[.int .u8 ((s[j]'hp).toNat : Int)] 5))
      have hnw := qh9 (show (xv1.alloc (.cells #[.int .u8 ((s[j]'hp).toNat : Int)] 5)).heap[xv1.heap.size]? = some (.cells #[.int .u8 (((s[j]'hp) : UInt8).toNat : Int)] 5 (0, 0)) from heap_alloc_new xv1 _)
      have hob := qh9 (Ov1.out.kept5 hal.out)
      go_wp2_with (at_builtin; refine appByte5 rfl (.tmp 29) (.tmp 33) rfl rfl hob.out (s[j]'hp) xv1.heap.size 1 rfl hnw.out (by have := HLN.out; have := HS.out; (try simp only [List.length_append, List.length_cons, List.length_nil]); omega) (Nat.le_trans Sv1.out hal.out.size) ?_)
      intro v2 xv2 ov2 kv2
      have Kv2 := qh9 ((Kp5.of hal.out Sv1.out).trans kv2)
      have Ov2 := qh9 ov2
      have Sv2 := qh9 (Nat.le_trans Sv1.out Kv2.out.bel.size)
      clear hal hnw hob ov2 kv2
      go_wp2
      go_roundw
      case rel => exact ⟨j + 1, acc ++ [92, s[j]'hp], v2, hp, rfl, rfl, ⟨HB.out.trans (Kv1.out.trans Kv2.out).bel, Ov2.out, HI.out⟩⟩
      case measure =>
       simp only [intOf]
       omega
    · by_cases h2 : s[j]'hp = 92
      · have hx : (((s[j]'hp).toNat : Int) == (m.toNat : Int)) = false := by rw [byte_eq, beq_eq_false_iff_ne]; exact h1
        have hy : (((s[j]'hp).toNat : Int) == 92) = true := by rw [h2]; rfl
        have hc : s[j]'hp = m ∨ s[j]'hp = 92 := .inr h2
        clear h1 h2
        have HLN := qh9 HE.out.len
        have HSZ := qh9 HE.out.bel.size
        have HB := qh9 HE.out.bel
        have HO := qh9 HE.out.own
        have HI := qh9 (HE.out.esc hp hc)
        clear hc
        have hal := qh9 (below_al wo (.cells #[.int .u8 92] 5))
        have hnw := qh9 (show (wo.alloc (.cells #[.int .u8 92] 5)).heap[wo.heap.size]? = some (.cells #[.int .u8 ((92 : UInt8).toNat : Int)] 5 (0, 0)) from heap_alloc_new wo _)
        have hob := qh9 (HO.out.kept5 hal.out)
        go_wp2_with (at_builtin; refine appByte5 rfl (.tmp 26) (.tmp 27) rfl rfl hob.out 92 wo.heap.size 1 rfl hnw.out (by have := HLN.out; have := HS.out; (try simp only [List.length_append, List.length_cons, List.length_nil]); omega) (Nat.le_trans HSZ.out hal.out.size) ?_)
        intro v1 xv1 ov1 kv1
        have Kv1 := qh9 ((Kp5.of hal.out HSZ.out).trans kv1)
        have Ov1 := qh9 ov1
        have Sv1 := qh9 (Nat.le_trans HSZ.out Kv1.out.bel.size)
        clear hal hnw hob ov1 kv1
        have hal := qh9 (below_al xv1 (.cells #[.int .u8 ((s[j]'hp).toNat : Int)] 5))
        have hnw := qh9 (show (xv1.alloc (.cells #[.int .u8 ((s[j]'hp).toNat : Int)] 5)).heap[xv1.heap.size]? = some (.cells #[.int .u8 (((s[j]'hp) : UInt8).toNat : Int)] 5 (0, 0)) from heap_alloc_new xv1 _)
        have hob := qh9 (Ov1.out.kept5 hal.out)
        go_wp2_with (at_builtin; refine appByte5 rfl (.tmp 29) (.tmp 33) rfl rfl hob.out (s[j]'hp) xv1.heap.size 1 rfl hnw.out (by have := HLN.out; have := HS.out; (try simp only [List.length_append, List.length_cons, List.length_nil]); omega) (Nat.le_trans Sv1.out hal.out.size) ?_)
        intro v2 xv2 ov2 kv2
        have Kv2 := qh9 ((Kp5.of hal.out Sv1.out).trans kv2)
        have Ov2 := qh9 ov2
        have Sv2 := qh9 (Nat.le_trans Sv1.out Kv2.out.bel.size)
        clear hal hnw hob ov2 kv2
        go_wp2
        go_roundw
        case rel => exact ⟨j + 1, acc ++ [92, s[j]'hp], v2, hp, rfl, rfl, ⟨HB.out.trans (Kv1.out.trans Kv2.out).bel, Ov2.out, HI.out⟩⟩
        case measure =>
         simp only [intOf]
         omega
      · have hx : (((s[j]'hp).toNat : Int) == (m.toNat : Int)) = false := by rw [byte_eq, beq_eq_false_iff_ne]; exact h1
        have hy : (((s[j]'hp).toNat : Int) == 92) = false := by
         rw [beq_eq_false_iff_ne]
         intro e
         exact h2 (UInt8.toNat_inj.1 (by show (s[j]'hp).toNat = 92; omega))
        have hc : ¬ (s[j]'hp = m ∨ s[j]'hp = 92) := not_or.2 ⟨h1, h2⟩
        clear h1 h2
        have HLN := qh9 HE.out.len
        have HSZ := qh9 HE.out.bel.size
        have HB := qh9 HE.out.bel
        have HO := qh9 HE.out.own
        have HI := qh9 (HE.out.one hp hc)
        clear hc
        have hal := qh9 (below_al wo (.cells #[.int .u8 ((s[j]'hp).toNat : Int)] 5))
        have hnw := qh9 (show (wo.alloc (.cells #[.int .u8 ((s[j]'hp).toNat : Int)] 5)).heap[wo.heap.size]? = some (.cells #[.int .u8 (((s[j]'hp) : UInt8).toNat : Int)] 5 (0, 0)) from heap_alloc_new wo _)
        have hob := qh9 (HO.out.kept5 hal.out)
        go_wp2_with (at_builtin; refine appByte5 rfl (.tmp 29) (.tmp 33) rfl rfl hob.out (s[j]'hp) wo.heap.size 1 rfl hnw.out (by have := HLN.out; have := HS.out; (try simp only [List.length_append, List.length_cons, List.length_nil]); omega) (Nat.le_trans HSZ.out hal.out.size) ?_)
        intro v2 xv2 ov2 kv2
        have Kv2 := qh9 ((Kp5.of hal.out HSZ.out).trans kv2)
        have Ov2 := qh9 ov2
        have Sv2 := qh9 (Nat.le_trans HSZ.out Kv2.out.bel.size)
        clear hal hnw hob ov2 kv2
        go_wp2
        go_roundw
        case rel => exact ⟨j + 1, acc ++ [s[j]'hp], v2, hp, rfl, rfl, ⟨HB.out.trans Kv2.out.bel, Ov2.out, HI.out⟩⟩
        case measure =>
         simp only [intOf]
         omega
  · have d2 : ¬ (j : Int) < (s.size : Int) := by omega
    have hfin : Hid (BA (acc ++ [m]) = BA (escL m (LA s))) := congrArg BA (HE.out.fin (by omega))
    have HLN := qh9 HE.out.len
    have HSZ := qh9 HE.out.bel.size
    have HB := qh9 HE.out.bel
    have HO := qh9 HE.out.own
    have hal := qh9 (below_al wo (.cells #[.int .u8 (m.toNat : Int)] 5))
    have hnw := qh9 (show (wo.alloc (.cells #[.int .u8 (m.toNat : Int)] 5)).heap[wo.heap.size]? = some (.cells #[.int .u8 ((m : UInt8).toNat : Int)] 5 (0, 0)) from heap_alloc_new wo _)
    have hob := qh9 (HO.out.kept5 hal.out)
    go_wp2_with (at_builtin; refine appByte5 rfl (.tmp 35) (.tmp 37) rfl rfl hob.out m wo.heap.size 1 rfl hnw.out (by have := HLN.out; have := HS.out; (try simp only [List.length_append, List.length_cons, List.length_nil]); omega) (Nat.le_trans HSZ.out hal.out.size) ?_)
    intro v1 xv1 ov1 kv1
    have Kv1 := qh9 ((Kp5.of hal.out HSZ.out).trans kv1)
    have Ov1 := qh9 ov1
    have Sv1 := qh9 (Nat.le_trans HSZ.out Kv1.out.bel.size)
    clear hal hnw hob ov1 kv1
    have hcv := convOwn _ _ _ _ Ov1.out
    go_wp2
    go_ret
    exact ⟨congrArg (fun x => Ending.returned (.string x)) hfin.out, HB.out.trans Kv1.out.bel⟩
/-- The reference's Numeral. -/
theorem numeralTR (s : ByteArray) (hs : s.size ≤ 6000) (w : World) : Calls Tryz.prog 76 #[.string s] w (RetB w (numL (LA s)).isSome) := by
 have C := numeralR s hs w
 have e : (numRL (LA s)).isSome = (numL (LA s)).isSome := by rw [numR_eq, Option.isSome_map]
 rw [← e]
 clear e
 generalize numRL (LA s) = R at C ⊢
 cases R with
 | none =>
  have CC := qh9 C
  clear C
  go_enter Tryz.func76, Tryz.ntmps76
  go_wp2_with fail
  refine CC.out.mono ?_
  rintro e w1 ⟨h, hq⟩
  replace h : e = .returned (.tuple #[.string ⟨#[]⟩, .string ⟨#[]⟩, .bool false]) := h
  subst h
  obtain ⟨n, rfl⟩ := hq
  go_wp2
  go_ret
  exact ⟨rfl, drew_below w n⟩
 | some q =>
  have CC := qh9 C
  clear C
  go_enter Tryz.func76, Tryz.ntmps76
  go_wp2_with fail
  refine CC.out.mono ?_
  rintro e w1 ⟨h, hq⟩
  replace h : e = .returned (.tuple #[.string (BA q.1), .string (BA q.2), .bool true]) := h
  subst h
  obtain ⟨n, rfl⟩ := hq
  go_wp2
  go_ret
  exact ⟨rfl, drew_below w n⟩
theorem take_all (s : ByteArray) {j : Nat} (hj : j < s.size) : ((LA s).take (j + 1)).all conB = (((LA s).take j).all conB && conB (s[j]'hj)) := by
 rw [List.take_succ_eq_append_getElem (show j < (LA s).length from hj), List.all_append, List.all_cons, List.all_nil, Bool.and_true]
 rfl
theorem simple_take (s : ByteArray) {j : Nat} (hj : s.size ≤ j) : (decide (0 < s.size) && ((LA s).take j).all conB) = simpleL (LA s) := by
 rw [List.take_of_length_le (show (LA s).length ≤ j from hj)]
 unfold simpleL
 congr 1
 have e : (LA s).length = s.size := rfl
 rw [← e]
 cases LA s <;> rfl
theorem wordR6 (n : ByteArray) (q : Bool) (w : World) (hz : n.size ≤ 6000) :
 Calls Tryz.prog 42 #[.string n, .bool q] w (RetTU w (BA (wordS (LA n) q))) := by
 have CN : Hid (∀ X, Calls Tryz.prog 76 #[.string n] X (RetB X (numL (LA n)).isSome)) := fun X => numeralTR n hz X
 have CE : Hid (∀ X, Calls Tryz.prog 77 #[.string n, .int .u8 124] X (RetTU X (BA (escL 124 (LA n))))) := fun X => escapedR n 124 X (by omega)
 obtain ⟨T, hT⟩ : ∃ T, BA (wordS (LA n) q) = T := ⟨_, rfl⟩
 rw [hT]
 have HT := qh9 hT
 have d5 : (n.size : Int) ≤ 6000 := by omega
 clear hT hz
 go_enter Tryz.func42, Tryz.ntmps42
 go_wp2
 go_loopw [5, 6] (fun v u wr => ∃ (j : Nat) (b : Bool), j ≤ n.size ∧ v = .bool b ∧ u = .int .i64 (j : Int) ∧ wr = w ∧ Hid (b = (decide (0 < n.size) && ((LA n).take j).all conB))) (fun _ u _ => n.size - (intOf u).toNat)
 case atStart => exact ⟨0, _, Nat.zero_le _, rfl, rfl, rfl, by show _ = _; simp⟩
 case round =>
  obtain ⟨j, b, hj, rfl, rfl, rfl, HB⟩ := hrel
  by_cases hp : j < n.size
  · have d2 : (0 : Int) ≤ (j : Int) ∧ (j : Int) < (n.size : Int) := by omega
    have ht := take_all n hp
    cases b with
    | true =>
     have HN : Hid (conB (n[j]'hp) = (decide (0 < n.size) && ((LA n).take (j + 1)).all conB)) := by
      show _ = _
      rw [ht, ← Bool.and_assoc, ← HB.out, Bool.true_and]
     clear ht
     go_wp2_with fail
     refine (conR (n[j]'hp) _).mono ?_
     rintro e w1 ⟨rfl, rfl⟩
     go_wp2
     go_roundw
     case rel => exact ⟨j + 1, _, hp, rfl, rfl, trivial, HN⟩
     case measure =>
      simp only [intOf]
      omega
    | false =>
     have HN : Hid (false = (decide (0 < n.size) && ((LA n).take (j + 1)).all conB)) := by
      show _ = _
      rw [ht, ← Bool.and_assoc, ← HB.out, Bool.false_and]
     clear ht
     go_wp2
     go_roundw
     case rel => exact ⟨j + 1, false, hp, rfl, rfl, trivial, HN⟩
     case measure =>
      simp only [intOf]
      omega
  · have d2 : ¬ (j : Int) < (n.size : Int) := by omega
    have hb : b = simpleL (LA n) := HB.out.trans (simple_take n (by omega))
    have h46 : (LA n == [46]) = decide (n = ⟨#[46]⟩) := by
     rw [Bool.eq_iff_iff, beq_iff_eq, decide_eq_true_eq]
     exact ⟨fun h => by rw [← BA_LA n, h]; rfl, fun h => by rw [h]; rfl⟩
    have HT2 : Hid (T = if (b && (q || !(decide (n = ⟨#[46]⟩) || (numL (LA n)).isSome))) = true then n else BA (escL 124 (LA n))) := by
     show _ = _
     rw [← HT.out, hb, ← h46]
     unfold wordS
     split
     · rw [BA_LA]
     · rfl
    clear HB HT hb h46
    generalize (numL (LA n)).isSome = nb at CN HT2
    generalize BA (escL 124 (LA n)) = E at CE HT2
    cases b with
    | false =>
     obtain rfl : T = E := HT2.out.trans (if_neg (by simp))
     clear HT2
     go_wp2_with fail
     with_reducible refine (CE.out _).mono ?_
     rintro e w1 ⟨rfl, hb⟩
     go_wp2
     go_ret
     exact ⟨rfl, hb⟩
    | true =>
     cases q with
     | true =>
      obtain rfl : T = n := HT2.out.trans (if_pos (by simp))
      clear HT2
      go_wp2
      go_ret
      exact ⟨rfl, Below.refl _ _⟩
     | false =>
      by_cases hd : n = ⟨#[46]⟩
      · obtain rfl : T = E := HT2.out.trans (if_neg (by simp [hd]))
        clear HT2
        subst hd
        go_wp2_with fail
        with_reducible refine (CE.out _).mono ?_
        rintro e w1 ⟨rfl, hb⟩
        go_wp2
        go_ret
        exact ⟨rfl, hb⟩
      · rw [decide_eq_false hd, Bool.false_or] at HT2
        have hd2 : (n.toList == [46]) = false := by
         rw [beq_eq_false_iff_ne]
         intro e
         apply hd
         rw [← BA_LA n]
         have : LA n = [46] := by rw [← e, Lib.toList_data]; rfl
         rw [this]
         rfl
        cases nb with
        | true =>
         obtain rfl : T = E := HT2.out.trans (if_neg (by simp))
         clear HT2 hd
         go_wp2_with fail
         with_reducible refine (CN.out _).mono ?_
         rintro e w1 ⟨rfl, hb⟩
         have HB := qh9 hb
         clear hb
         go_wp2_with fail
         with_reducible refine (CE.out _).mono ?_
         rintro e w2 ⟨rfl, hb⟩
         go_wp2
         go_ret
         exact ⟨rfl, chain2 HB.out hb (Nat.le_refl _)⟩
        | false =>
         obtain rfl : T = n := HT2.out.trans (if_pos (by simp))
         clear HT2 hd
         go_wp2_with fail
         with_reducible refine (CN.out _).mono ?_
         rintro e w1 ⟨rfl, hb⟩
         have HB := qh9 hb
         clear hb
         go_wp2
         go_ret
         exact ⟨rfl, HB.out⟩
theorem BA_app4 (p : ByteArray) (l : List UInt8) : BA (LA p ++ 58 :: 58 :: l) = p ++ ⟨#[58, 58]⟩ ++ BA l := by
 have e : LA p ++ 58 :: 58 :: l = (LA p ++ [58, 58]) ++ l := by simp
 rw [e, BA_app3, BA_app3, BA_LA]
 rfl
theorem nameR6 (l : List Sy.Pg) (v : Value) (cur p n : ByteArray) (w : World) (hv : Sy.PgV w l v) (hl : l.length ≤ 1000000) (hi : ∀ q ∈ l, q.2.length ≤ 1000000) :
 Calls Tryz.prog 15 #[v, .string cur, .agg #[.string p, .string n]] w (RetTE w (nameV l cur p n).1 (nameV l cur p n).2) := by
 have CV : Hid (∀ X, Calls Tryz.prog 38 #[.agg #[.string p, .string n]] X (RetB X (Sy.symOk p n))) := fun X => Sy.validSR p n X
 have CF : Hid (∀ X, Below w.heap.size w X → Calls Tryz.prog 39 #[v, .string cur] X (Sy.RetF X (Sy.findM l cur))) := fun X h => Sy.findRY l v cur X (hv.keep h) hl
 have CH : Hid (∀ X, Below w.heap.size w X → Calls Tryz.prog 40 #[v, .agg #[.string p, .string n]] X (RetB X (Sy.homeM l (p, n)))) := fun X h => Sy.homeRY l v p n X (hv.keep h) hl hi
 have CS : Hid (∀ X, Below w.heap.size w X → Calls Tryz.prog 41 #[v, .string cur, .agg #[.string p, .string n]] X (RetB X (Sy.visM l cur (p, n)))) := fun X h => Sy.visibleRY l v cur p n X (hv.keep h) hl hi
 have CW : Hid (Sy.symOk p n = true → n.size ≤ 40 ∧ p.size ≤ 40 ∧ ∀ X b, Calls Tryz.prog 42 #[.string n, .bool b] X (RetTU X (BA (wordS (LA n) b)))) := fun h => by
  have hok' : Sy.pkgOk p = true ∧ Sy.nameOk n = true := by unfold Sy.symOk at h; rw [Bool.and_eq_true] at h; exact h
  have hzn : n.size ≤ 40 := (nameOk_facts (n := LA n) (by rw [BA_LA]; exact hok'.2)).2
  have hzp : p.size ≤ 40 := (pkgOk_facts (p := LA p) (by rw [BA_LA]; exact hok'.1)).2.2
  exact ⟨hzn, hzp, fun X b => wordR6 n b X (by omega)⟩
 unfold nameV nmU
 rw [show (BA (LA p), BA (LA n)) = (p, n) by rw [BA_LA, BA_LA]]
 obtain ⟨V, hV⟩ : ∃ V : ByteArray × Int, (if Sy.symOk p n = true then (if ((Sy.findM l cur).isSome && Sy.homeM l (p, n)) = true then (BA (if Sy.visM l cur (p, n) = true then wordS (LA n) false else LA p ++ 58 :: 58 :: wordS (LA n) true), 0) else (⟨#[]⟩, 13)) else (⟨#[]⟩, 1)) = V := ⟨_, rfl⟩
 rw [hV]
 generalize Sy.symOk p n = b1 at CV CW hV
 generalize Sy.homeM l (p, n) = b3 at CH hV
 generalize Sy.visM l cur (p, n) = b4 at CS hV
 generalize Sy.findM l cur = F at CF hV
 have HV := qh9 hV
 obtain ⟨Vs, Vn⟩ := V
 clear hv hl hi hV
 have S0 := Sy.SB.new w (.string p) (.string n)
 have hb0 := below_al w (.cells #[.string p, .string n] 23)
 go_enter Tryz.func15, Tryz.ntmps15
 go_upto_region 1 with fail
 generalize w.alloc (.cells #[.string p, .string n] 23) = W at S0 hb0 ⊢
 have HW := qh9 hb0
 have BS := qh9 S0
 clear S0 hb0
 obtain ⟨s0, s1⟩ := And.intro BS.out.c0 (Sy.SB.c1 BS.out)
 go_wp2_with fail
 clear s0 s1
 with_reducible refine (CV.out _).mono ?_
 rintro e w1 ⟨rfl, hb⟩
 replace HW := qc9 HW hb
 replace BS := qh9 (BS.out.keep hb)
 clear hb CV
 cases b1 with
 | false =>
  have hx := Prod.mk.inj HV.out
  obtain ⟨hx1, hx2⟩ := hx
  subst hx1 hx2
  clear HV
  go_wp2
  first | exact bodyPost_ret (results_tmp2 rfl _ _) rfl ⟨rfl, HW.out⟩ | exact Sy.retTT rfl rfl rfl ⟨rfl, HW.out⟩
 | true =>
  have CW2 := qh9 (CW.out rfl)
  clear CW
  have z1 := CW2.out.1
  have z2 := CW2.out.2.1
  cases F with
  | none =>
   have hx := Prod.mk.inj HV.out
   obtain ⟨hx1, hx2⟩ := hx
   subst hx1 hx2
   clear HV
   go_wp2_with fail
   with_reducible refine (CF.out _ HW.out).mono ?_
   rintro e w2 ⟨rfl, hb⟩
   replace HW := qh9 (chain2 HW.out (chain2 hb (below_al _ (.cells #[.string ⟨#[]⟩, .slice none 0 0] 69)) (Nat.le_refl _)) (Nat.le_refl _))
   clear hb CF
   go_wp2
   first | exact bodyPost_ret (results_tmp2 rfl _ _) rfl ⟨rfl, HW.out⟩ | exact Sy.retTT rfl rfl rfl ⟨rfl, HW.out⟩
  | some f =>
   go_wp2_with fail
   with_reducible refine (CF.out _ HW.out).mono ?_
   rintro e w2 ⟨u, rfl, hu, hb⟩
   obtain ⟨A1, cc1, rfl, _, _, _⟩ := hu
   have hb2 := chain2 hb (below_al _ (.cells #[.string f.1, .slice A1 f.2.length cc1] 69)) (Nat.le_refl _)
   replace HW := qc9 HW hb2
   replace BS := qh9 (BS.out.keep hb2)
   clear hb hb2 CF
   go_upto_region 4 with fail
   generalize World.alloc w2 _ = W2 at HW BS ⊢
   obtain ⟨s0, s1⟩ := And.intro BS.out.c0 (Sy.SB.c1 BS.out)
   go_wp2_with fail
   clear s0 s1
   with_reducible refine (CH.out _ HW.out).mono ?_
   rintro e w3 ⟨rfl, hb⟩
   replace HW := qc9 HW hb
   replace BS := qh9 (BS.out.keep hb)
   clear hb CH
   cases b3 with
   | false =>
    have hx := Prod.mk.inj HV.out
    obtain ⟨hx1, hx2⟩ := hx
    subst hx1 hx2
    clear HV
    go_wp2
    first | exact bodyPost_ret (results_tmp2 rfl _ _) rfl ⟨rfl, HW.out⟩ | exact Sy.retTT rfl rfl rfl ⟨rfl, HW.out⟩
   | true =>
    obtain ⟨s0, s1⟩ := And.intro BS.out.c0 (Sy.SB.c1 BS.out)
    go_wp2_with fail
    clear s0 s1
    with_reducible refine (CS.out _ HW.out).mono ?_
    rintro e w4 ⟨rfl, hb⟩
    replace HW := qc9 HW hb
    replace BS := qh9 (BS.out.keep hb)
    clear hb CS
    cases b4 with
    | true =>
     have hx := Prod.mk.inj HV.out
     obtain ⟨hx1, hx2⟩ := hx
     replace hx1 : BA (wordS (LA n) false) = Vs := hx1
     have C3 := qh9 (fun X => CW2.out.2.2 X false)
     rw [hx1] at C3
     subst hx2
     clear HV hx1
     obtain ⟨s0, s1⟩ := And.intro BS.out.c0 (Sy.SB.c1 BS.out)
     go_wp2_with fail
     clear s0 s1
     with_reducible refine (C3.out _).mono ?_
     rintro e w5 ⟨rfl, hb⟩
     replace HW := qc9 HW hb
     clear hb
     go_wp2
     first | exact bodyPost_ret (results_tmp2 rfl _ _) rfl ⟨rfl, HW.out⟩ | exact Sy.retTT rfl rfl rfl ⟨rfl, HW.out⟩
    | false =>
     have hx := Prod.mk.inj HV.out
     obtain ⟨hx1, hx2⟩ := hx
     replace hx1 : BA (LA p ++ 58 :: 58 :: wordS (LA n) true) = Vs := hx1
     rw [BA_app4] at hx1
     have C3 := qh9 (fun X => CW2.out.2.2 X true)
     have z3 : (BA (wordS (LA n) true)).size ≤ 200 := by
      rw [BA_size]
      unfold wordS
      have := escL_len 124 (LA n)
      have e : (LA n).length = n.size := rfl
      split <;> omega
     generalize BA (wordS (LA n) true) = Y at hx1 C3 z3
     subst hx1 hx2
     clear HV
     obtain ⟨s0, s1⟩ := And.intro BS.out.c0 (Sy.SB.c1 BS.out)
     go_wp2_with fail
     go_region_with (go_at_call 42; (with_reducible refine (C3.out _).mono ?_); rintro e w5 ⟨rfl, hb5⟩; have hb := (Below.drew (Below.refl w4.heap.size w4)).trans hb5; have H5 := qh9 (BS.out.keep hb); have r0 := H5.out.c0; have r1 := Sy.SB.c1 H5.out; replace HW := qc9 HW hb; clear hb hb5)
     all_goals (go_wp2; (first | exact bodyPost_ret (results_tmp2 rfl _ _) rfl ⟨rfl, HW.out⟩ | exact Sy.retTT rfl rfl rfl ⟨rfl, HW.out⟩))
/-- The object o lies at ⟨b, k⟩. -/
def AdU (w : World) (o : Ob) (b k : Nat) (p : Value) : Prop := At w (Has w) o b k p
theorem AdU.below {w w' : World} {o : Ob} {b k : Nat} {p : Value} (h : AdU w o b k p) (hb : Below w.heap.size w w') : AdU w' o b k p :=
 (At.below h (In.has w) hb).more fun b hb' => Nat.lt_of_lt_of_le hb' hb.size
theorem AdU.hd {w : World} {o : Ob} {b k : Nat} {p : Value} (h : AdU w o b k p) : Hd w o p := h.2.2
theorem Hd.consU {w : World} {a d : Ob} {p : Value} (h : Hd w (.cons a d) p) : ∃ b o c pa pd, p = .slice (some ⟨b, o, none⟩) 2 c ∧ 2 ≤ c ∧ AdU w a b o pa ∧ AdU w d b (o + 7) pd := Pair.parts h
theorem loadAU {ops : Array Oper} {rest : List Oper} {o : Oper} {a : Act} {w : World} {Q : Exit → Act → World → Prop} {g k : Nat} {b : Ob} {p : Value} (ho : ∃ x, o.op = .load 39 x ∧ a.eval x = .pointer (some ⟨g, k, none⟩)) (hgd : o.guard = none)
 (hb : AdU w b g k p)
 (h : wpList Tryz.prog ops Q rest (a.put o.dst (vO b p)) w) : wpList Tryz.prog ops Q (o :: rest) a w := by
 obtain ⟨x, ho, hx⟩ := ho
 exact wpList_load_mid hgd 39 x ho g k hx (cellsO b p) _ hb.2.1 Tryz.underlying39 rfl (by rw [cellsO_length]; kernel_rfl) h
theorem loadAGU {ops : Array Oper} {rest : List Oper} {o : Oper} {a : Act} {w : World} {Q : Exit → Act → World → Prop} {g k : Nat} {b : Ob} {p : Value} (ho : ∃ x, o.op = .load 39 x ∧ a.eval x = .pointer (some ⟨g, k, none⟩)) (hw : Region.wanted o (yielded ops a.tmps) = true)
 (hb : AdU w b g k p)
 (h : wpList Tryz.prog ops Q rest (a.put o.dst (vO b p)) w) : wpList Tryz.prog ops Q (o :: rest) a w := by
 obtain ⟨x, ho, hx⟩ := ho
 unfold wpList
 rw [if_pos hw]
 exact .inl (wp_load_mid 39 x ho g k hx (cellsO b p) _ hb.2.1 Tryz.underlying39 rfl (by rw [cellsO_length]; kernel_rfl) h)
/-- The text of a number, as strings. -/
theorem numS_bytes (q : Rat) : BA (numS q) = if q.den = 1 then nt q else nt q ++ ⟨#[47]⟩ ++ dt q := by
 unfold numS
 split
 · rfl
 · have e : text q.num ++ 47 :: magText q.den = (text q.num ++ [47]) ++ magText q.den := by simp
   have e2 : magText q.den = text (q.den : Int) := by
    rcases text_cases (q.den : Int) with ⟨_, h⟩ | ⟨h, _⟩
    · rw [h, Int.natAbs_natCast]
    · omega
   rw [e, BA_app3, BA_app3, e2]
   rfl
theorem numberTextP (q : Rat) (p : Value) (w : World) (hb : Bd 900 q) :
 Calls Tryz.prog 82 #[vO (.num q) p] w (RetTU w (BA (numS q))) := by
 have C : Hid (∀ X, Calls Tryz.prog 109 #[vO (.num q) p] X (RetB X (decide (q.den = 1)))) := fun X => isIntegerP (.num q) p X
 have z1 := bd_nt hb
 have z2 := bd_dt hb
 rw [numS_bytes]
 have ea : cellsO (.num q) p = [.int .i64 1, .string (nt q), .string (dt q), .string ⟨#[]⟩, .string ⟨#[]⟩, .string ⟨#[]⟩, p] := rfl
 have T := Bx1.new w #[.int .i64 1, .string (nt q), .string (dt q), .string ⟨#[]⟩, .string ⟨#[]⟩, .string ⟨#[]⟩, p]
 rw [vO_cells ea]
 generalize nt q = x at *
 generalize dt q = y at *
 by_cases hq : q.den = 1
 all_goals
  first | rw [if_pos hq] | rw [if_neg hq]
  first | rw [decide_eq_true hq] at C | rw [decide_eq_false hq] at C
  clear hq hb
  go_enter Tryz.func82, Tryz.ntmps82
  go_upto_region 1 with fail
  generalize w.alloc (.cells #[.int .i64 1, .string x, .string y, .string ⟨#[]⟩, .string ⟨#[]⟩, .string ⟨#[]⟩, p] 39) = W at T ⊢
  have B0 : Hid (Bx W (w.heap.size) (cellsO (.num q) p).toArray) := by rw [ea]; exact T.b0
  have B1 := qh9 T.b0
  have HW := qh9 T.bel
  rw [vO_cells ea] at C
  clear T
  obtain ⟨m0, m1, m2, m3, m4, m5, m6⟩ := Bx.c B1.out
  go_wp2_with fail
  with_reducible refine (C.out _).mono ?_
  rintro e w1 ⟨rfl, hb⟩
  replace B1 := qh9 (B1.out.keep hb)
  replace HW := qc9 HW hb
  clear hb m0 m1 m2 m3 m4 m5 m6
  obtain ⟨m0, m1, m2, m3, m4, m5, m6⟩ := Bx.c B1.out
  go_wp2
  go_ret
  exact ⟨rfl, HW.out⟩
/-- All symbols of an object are at home. -/
def homeO (l : List Sy.Pg) : Ob → Bool
 | .sym p n => Sy.homeM l (BA p, BA n)
 | .cons a d => homeO l a && homeO l d
 | _ => true
theorem homeSym (l : List Sy.Pg) (v : Value) (x y : List UInt8) (p : Value) (w : World) (hv : Sy.PgV w l v) (hl : l.length ≤ 1000000) (hi : ∀ q ∈ l, q.2.length ≤ 1000000) :
 Calls Tryz.prog 79 #[v, vO (.sym x y) p] w (RetB w (Sy.homeM l (BA x, BA y))) := by
 have C : Hid (∀ X, Below w.heap.size w X → Calls Tryz.prog 35 #[v, .agg #[.string (BA x), .string (BA y)]] X (RetB X (Sy.homeM l (BA x, BA y)))) := fun X h => Sy.homeY l v (BA x) (BA y) X (hv.keep h) hl hi
 generalize Sy.homeM l (BA x, BA y) = r at C ⊢
 have ea : cellsO (.sym x y) p = [.int .i64 2, .string ⟨#[]⟩, .string ⟨#[]⟩, .string (BA x), .string (BA y), .string ⟨#[]⟩, p] := rfl
 have T := Bx1.new w #[.int .i64 2, .string ⟨#[]⟩, .string ⟨#[]⟩, .string (BA x), .string (BA y), .string ⟨#[]⟩, p]
 rw [vO_cells ea]
 clear hv hl hi
 go_enter Tryz.func79, Tryz.ntmps79
 go_upto_region 1 with fail
 generalize w.alloc (.cells #[.int .i64 2, .string ⟨#[]⟩, .string ⟨#[]⟩, .string (BA x), .string (BA y), .string ⟨#[]⟩, p] 39) = W at T ⊢
 have HW := qh9 T.bel
 obtain ⟨m0, m1, m2, m3, m4, m5, m6⟩ := Bx.c T.b0
 clear T ea
 go_wp2_with fail
 with_reducible refine (C.out _ HW.out).mono ?_
 rintro e w1 ⟨rfl, hb⟩
 go_wp2
 go_ret
 exact ⟨rfl, chain2 HW.out hb (Nat.le_refl _)⟩
theorem homeFlat (v : Value) (k : Int) (hk2 : (k == 2) = false) (hk4 : (k == 4) = false) (a1 a2 a3 a4 a5 a6 : Value) (w : World) :
 Calls Tryz.prog 79 #[v, .agg #[.int .i64 k, a1, a2, a3, a4, a5, a6]] w (RetB w true) := by
 have T := Bx1.new w #[.int .i64 k, a1, a2, a3, a4, a5, a6]
 go_enter Tryz.func79, Tryz.ntmps79
 go_upto_region 1 with fail
 generalize w.alloc (.cells #[.int .i64 k, a1, a2, a3, a4, a5, a6] 39) = W at T ⊢
 have HW := qh9 T.bel
 obtain ⟨m0, m1, m2, m3, m4, m5, m6⟩ := Bx.c T.b0
 clear T
 go_wp2
 go_ret
 exact ⟨rfl, HW.out⟩
theorem homeCons (l : List Sy.Pg) (v : Value) (a d : Ob) (x y : Bool) (p : Value) (w : World) (hv : Sy.PgV w l v) (hp : Hd w (.cons a d) p)
 (ca : ∀ X q, Sy.PgV X l v → Hd X a q → Calls Tryz.prog 79 #[v, vO a q] X (RetB X x)) (cd : ∀ X q, Sy.PgV X l v → Hd X d q → Calls Tryz.prog 79 #[v, vO d q] X (RetB X y)) :
 Calls Tryz.prog 79 #[v, vO (.cons a d) p] w (RetB w (x && y)) := by
 obtain ⟨b1, o1, n1, pa, pd, rfl, hn1, hA, hD⟩ := hp.consU
 have CA := qh9 ca
 have CD := qh9 cd
 have HV := qh9 hv
 clear ca cd hv
 have HA := qh9 hA
 have HD := qh9 hD
 clear hA hD
 have ea : cellsO (.cons a d) (.slice (some ⟨b1, o1, none⟩) 2 n1) = [.int .i64 4, .string ⟨#[]⟩, .string ⟨#[]⟩, .string ⟨#[]⟩, .string ⟨#[]⟩, .string ⟨#[]⟩, (.slice (some ⟨b1, o1, none⟩) 2 n1)] := rfl
 have T := Bx1.new w #[.int .i64 4, .string ⟨#[]⟩, .string ⟨#[]⟩, .string ⟨#[]⟩, .string ⟨#[]⟩, .string ⟨#[]⟩, (.slice (some ⟨b1, o1, none⟩) 2 n1)]
 rw [vO_cells ea]
 go_enter Tryz.func79, Tryz.ntmps79
 go_upto_region 1 with fail
 generalize w.alloc (.cells #[.int .i64 4, .string ⟨#[]⟩, .string ⟨#[]⟩, .string ⟨#[]⟩, .string ⟨#[]⟩, .string ⟨#[]⟩, (.slice (some ⟨b1, o1, none⟩) 2 n1)] 39) = W at T ⊢
 have B0 := qh9 T.b0
 have HW := qh9 T.bel
 clear T ea hp
 replace HA := qh9 (HA.out.below HW.out)
 replace HD := qh9 (HD.out.below HW.out)
 replace HV := qh9 (HV.out.keep HW.out)
 obtain ⟨m0, _, _, _, _, _, m6⟩ := Bx.c B0.out
 go_wp2_with ((with_reducible refine loadAU ?_ ?_ HA.out ?_); exact ⟨_, rfl, rfl⟩; rfl)
 with_reducible refine (CA.out _ _ HV.out HA.out.hd).mono ?_
 rintro e w1 ⟨rfl, hb⟩
 replace B0 := qh9 (B0.out.keep hb)
 replace HW := qc9 HW hb
 replace HD := qh9 (HD.out.below hb)
 replace HV := qh9 (HV.out.keep hb)
 clear hb m0 m6
 obtain ⟨m0, _, _, _, _, _, m6⟩ := Bx.c B0.out
 cases x with
 | true =>
  go_wp2_with (first | ((with_reducible refine loadAU ?_ ?_ HD.out ?_); exact ⟨_, rfl, rfl⟩; rfl) | ((with_reducible refine loadAGU ?_ ?_ HD.out ?_); exact ⟨_, rfl, rfl⟩; rfl))
  with_reducible refine (CD.out _ _ HV.out HD.out.hd).mono ?_
  rintro e w2 ⟨rfl, hb⟩
  replace HW := qc9 HW hb
  go_wp2
  go_ret
  exact ⟨rfl, HW.out⟩
 | false =>
  go_wp2
  go_ret
  exact ⟨rfl, HW.out⟩
theorem isHomeP (l : List Sy.Pg) (v : Value) (hl : l.length ≤ 1000000) (hi : ∀ q ∈ l, q.2.length ≤ 1000000) : ∀ (o : Ob) (p : Value) (w : World), Sy.PgV w l v → Hd w o p → Calls Tryz.prog 79 #[v, vO o p] w (RetB w (homeO l o))
 | .num q, p, w, hv, h => homeFlat v 1 rfl rfl _ _ _ _ _ _ w
 | .str s, p, w, hv, h => homeFlat v 3 rfl rfl _ _ _ _ _ _ w
 | .sym x y, p, w, hv, h => homeSym l v x y p w hv hl hi
 | .cons a d, p, w, hv, h => homeCons l v a d _ _ p w hv h (fun X q hx hq => isHomeP l v hl hi a q X hx hq) (fun X q hx hq => isHomeP l v hl hi d q X hx hq)
/-- What checkObject returns. -/
def chkV (l : List Sy.Pg) (cur : ByteArray) (o : Ob) (b : Bool) : Int := if b = true then (if ((Sy.findM l cur).isSome && homeO l o) = true then 0 else 13) else 1
theorem checkObjectP (l : List Sy.Pg) (v : Value) (cur : ByteArray) (o : Ob) (p : Value) (b : Bool) (w : World) (hv : Sy.PgV w l v) (hl : l.length ≤ 1000000) (hi : ∀ q ∈ l, q.2.length ≤ 1000000) (h : Hd w o p)
 (hV : ∀ X, Below w.heap.size w X → Calls Tryz.prog 66 #[vO o p] X (RetB X b)) :
 Calls Tryz.prog 49 #[v, .string cur, vO o p] w (RetI w (chkV l cur o b)) := by
 have CV := qh9 hV
 have CX : Hid (∀ X, Below w.heap.size w X → Calls Tryz.prog 34 #[v, .string cur] X (RetB X (Sy.findM l cur).isSome)) := fun X hb => existsP l v cur X (hv.keep hb) hl
 have CH : Hid (∀ X, Below w.heap.size w X → Calls Tryz.prog 79 #[v, vO o p] X (RetB X (homeO l o))) := fun X hb => isHomeP l v hl hi o p X (hv.keep hb) (h.below hb)
 unfold chkV
 generalize (Sy.findM l cur).isSome = b2 at CX ⊢
 generalize homeO l o = b3 at CH ⊢
 obtain ⟨R, hR⟩ : ∃ R : Int, (if b = true then (if (b2 && b3) = true then 0 else 13) else 1) = R := ⟨_, rfl⟩
 rw [hR]
 have HR := qh9 hR
 clear hR hV hv hl hi h
 obtain ⟨a0, a1, a2, a3, a4, a5, ea⟩ := cells7 o p
 have T := Bx1.new w #[a0, a1, a2, a3, a4, a5, p]
 rw [vO_cells ea]
 go_enter Tryz.func49, Tryz.ntmps49
 go_upto_region 1 with fail
 generalize w.alloc (.cells #[a0, a1, a2, a3, a4, a5, p] 39) = W at T ⊢
 have B0 : Hid (Bx W (w.heap.size) (cellsO o p).toArray) := by rw [ea]; exact T.b0
 have HW := qh9 T.bel
 try rw [← vO_cells ea]
 clear T ea
 go_wp2_with (first | ((with_reducible refine loadB (.tmp 5) ?_ ?_ ?_ B0.out ?_); rfl; rfl; rfl) | ((with_reducible refine loadG (.tmp 5) ?_ ?_ ?_ B0.out ?_); rfl; rfl; rfl))
 with_reducible refine (CV.out _ HW.out).mono ?_
 rintro e w1 ⟨rfl, hb⟩
 replace B0 := qh9 (B0.out.keep hb)
 replace HW := qc9 HW hb
 clear hb CV
 cases b with
 | false =>
  obtain rfl := HR.out
  clear HR
  go_wp2
  go_ret
  exact ⟨rfl, HW.out⟩
 | true =>
  go_wp2_with fail
  with_reducible refine (CX.out _ HW.out).mono ?_
  rintro e w2 ⟨rfl, hb⟩
  replace B0 := qh9 (B0.out.keep hb)
  replace HW := qc9 HW hb
  clear hb CX
  cases b2 with
  | false =>
   obtain rfl := HR.out
   clear HR
   go_wp2
   go_ret
   exact ⟨rfl, HW.out⟩
  | true =>
   go_wp2_with (first | ((with_reducible refine loadB (.tmp 5) ?_ ?_ ?_ B0.out ?_); rfl; rfl; rfl) | ((with_reducible refine loadG (.tmp 5) ?_ ?_ ?_ B0.out ?_); rfl; rfl; rfl))
   with_reducible refine (CH.out _ HW.out).mono ?_
   rintro e w3 ⟨rfl, hb⟩
   replace HW := qc9 HW hb
   clear hb CH
   cases b3 with
   | false =>
    obtain rfl := HR.out
    clear HR
    go_wp2
    go_ret
    exact ⟨rfl, HW.out⟩
   | true =>
    obtain rfl := HR.out
    clear HR
    go_wp2
    go_ret
    exact ⟨rfl, HW.out⟩
/-- What was there before stands: all below B, and every block but g that is no row of bytes. -/
structure KpG (B g : Nat) (w w' : World) : Prop where
 bel : Below B w w'
 keep : ∀ k, k < w.heap.size → k ≠ g → (∀ cur fr, w.heap[k]? ≠ some (.cells cur 5 fr)) → w'.heap[k]? = w.heap[k]?
theorem KpG.refl (B g : Nat) (w : World) : KpG B g w w := ⟨Below.refl _ _, fun _ _ _ _ => rfl⟩
theorem KpG.trans {B g : Nat} {a b c : World} (h : KpG B g a b) (h' : KpG B g b c) : KpG B g a c :=
 ⟨h.bel.trans h'.bel, fun k hk hg hn => by
  have e := h.keep k hk hg hn
  exact (h'.keep k (Nat.lt_of_lt_of_le hk h.bel.size) hg (fun cur fr he => hn cur fr (e ▸ he))).trans e⟩
theorem KpG.of {B g : Nat} {a b : World} (h : Below a.heap.size a b) (hB : B ≤ a.heap.size) : KpG B g a b := ⟨h.mono hB, fun k hk _ _ => h.block k hk⟩
theorem KpG.five {B g : Nat} {a b : World} (h : Kp5 (g + 1) a b) (hB : B ≤ g) : KpG B g a b := ⟨h.bel.mono (by omega), fun k hk _ hn => h.keep k hk hn⟩
theorem KpG.set {B g : Nat} (w : World) (i : Nat) (u : Value) (hB : B ≤ g) : KpG B g w (w.setCell ⟨g, i, none⟩ u) :=
 ⟨(Below.refl B w).setCell (p := ⟨g, i, none⟩) hB u, fun k _ hk _ => Below.heap_setCell w ⟨g, i, none⟩ u k hk⟩
/-- The printing at block g: its packages, its package, its builder, which holds these bytes. -/
structure PrW (w : World) (B g : Nat) (lv : Value) (cur : ByteArray) (bp bv : Value) (acc : List UInt8) : Prop where
 hB : B ≤ g
 blk : w.heap[g]? = some (.cells #[lv, .string cur, bp, bv] 86 (0, 0))
 ptr : bp = .pointer none ∨ bp = .pointer (some ⟨g, 2, none⟩)
 own : OwnB w (g + 1) bv acc
section
variable {w w' : World} {B g : Nat} {lv : Value} {cur : ByteArray} {bp bv : Value} {acc : List UInt8}
theorem PrW.lt (h : PrW w B g lv cur bp bv acc) : g < w.heap.size := Sy.blk_ltY h.blk
theorem PrW.c0 (h : PrW w B g lv cur bp bv acc) : w.cell? ⟨g, 0, none⟩ = some lv := by rw [cell_of_row _ _ _ _ _ _ h.blk]; rfl
theorem PrW.c1 (h : PrW w B g lv cur bp bv acc) : w.cell? ⟨g, 1, none⟩ = some (.string cur) := by rw [cell_of_row _ _ _ _ _ _ h.blk]; rfl
theorem PrW.c2 (h : PrW w B g lv cur bp bv acc) : w.cell? ⟨g, 2, none⟩ = some bp := by rw [cell_of_row _ _ _ _ _ _ h.blk]; rfl
theorem PrW.c3 (h : PrW w B g lv cur bp bv acc) : w.cell? ⟨g, 3, none⟩ = some bv := by rw [cell_of_row _ _ _ _ _ _ h.blk]; rfl
theorem PrW.fr (h : PrW w B g lv cur bp bv acc) (i : Nat) : w.frozen? ⟨g, i, none⟩ = false := by
 have e := h.blk
 simp [World.frozen?, e]
theorem PrW.keep (h : PrW w B g lv cur bp bv acc) (hb : Below w.heap.size w w') : PrW w' B g lv cur bp bv acc :=
 ⟨h.hB, (hb.block g h.lt).trans h.blk, h.ptr, h.own.kept5 hb⟩
theorem PrW.set2 (h : PrW w B g lv cur bp bv acc) : PrW (w.setCell ⟨g, 2, none⟩ (.pointer (some ⟨g, 2, none⟩))) B g lv cur (.pointer (some ⟨g, 2, none⟩)) bv acc := by
 refine ⟨h.hB, ?_, .inr rfl, h.own.set5 (by omega) _ _⟩
 have e := h.blk
 simp [World.setCell, Array.getElem?_modify, e]
theorem PrW.five (h : PrW w B g lv cur bp bv acc) (hk : Kp5 (g + 1) w w') {v : Value} {l : List UInt8} (ho : OwnB w' (g + 1) v l) :
 w'.heap[g]? = some (.cells #[lv, .string cur, bp, bv] 86 (0, 0)) := (hk.bel.block g (by omega)).trans h.blk
end
theorem OwnB.shape {w : World} {B : Nat} {v : Value} {l : List UInt8} (h : OwnB w B v l) : ∃ A c, v = .slice A l.length c := by
 rcases h.2 with ⟨rfl, h0⟩ | ⟨g, cap, cur, rfl, _⟩
 · exact ⟨none, 0, by rw [h0]⟩
 · exact ⟨_, _, rfl⟩
theorem lenG (w : World) (B g : Nat) (lv : Value) (cur : ByteArray) (bp bv : Value) (acc : List UInt8) (h : PrW w B g lv cur bp bv acc) :
 Calls Tryz.prog 80 #[.pointer (some ⟨g, 2, none⟩)] w (fun e w' => e = .returned (.int .i64 (acc.length : Int)) ∧ w' = w) := by
 have c3 := h.c3
 obtain ⟨A, c, rfl⟩ := h.own.shape
 clear h
 go_enter Tryz.func80, Tryz.ntmps80
 go_wp2
 go_ret
 exact ⟨rfl, rfl⟩
theorem checkG (w : World) (B g : Nat) (lv : Value) (cur : ByteArray) (bp bv : Value) (acc : List UInt8) (h : PrW w B g lv cur bp bv acc) :
 Calls Tryz.prog 108 #[.pointer (some ⟨g, 2, none⟩)] w (fun e w' => e = .returned (.tuple #[]) ∧ PrW w' B g lv cur (.pointer (some ⟨g, 2, none⟩)) bv acc ∧ KpG B g w w') := by
 have H := qh9 h
 have c2 := h.c2
 have f2 := h.fr 2
 have hsh : w.shape? g = some (86, 4) := by
  have e := h.blk
  simp [World.shape?, e]
 obtain ⟨j, hj, hjs⟩ := Option.map_eq_some_iff.1 (show (Tryz.prog.info? 84).map (·.size) = some 2 by kernel_rfl)
 have hlies : liesAt Tryz.prog Tryz.prog.depth 86 (4 / Tryz.prog.cellsOf 86) 2 84 1 = true := by kernel_rfl
 have k1 := qh9 (Lib.run_to_unsafe (P := Tryz.prog) (w := w) ⟨g, 2, none⟩ Tryz.underlying81 Tryz.underlying174 hj (by rw [hjs]; decide) hsh (by show 2 < 4; omega))
 have k2 := qh9 (Lib.run_from_unsafe (P := Tryz.prog) (w := w) ⟨g, 2, none⟩ Tryz.underlying174 Tryz.underlying81 hj hsh hlies)
 have k3 := qh9 (Lib.run_neq_ptr_same (P := Tryz.prog) w ⟨g, 2, none⟩ Tryz.underlying81 hj)
 clear hsh hj hjs hlies
 rcases h.ptr with rfl | rfl
 · clear h
   go_enter Tryz.func108, Tryz.ntmps108
   go_wp2
   rw [k1.out]
   simp only [Result.andThen]
   rw [Oper.upon_value]
   go_wp2
   rw [run_callFunc_extern (fn := Tryz.f150) (by kernel_rfl) (by kernel_rfl) (by kernel_rfl) (by kernel_rfl) (e := Extern.AbiNoEscape.same) (by kernel_rfl)]
   rw [Lib.run_noEscape]
   simp only [Result.andThen]
   rw [Oper.upon_value]
   go_wp2
   rw [k2.out]
   simp only [Result.andThen]
   rw [Oper.upon_value]
   go_wp2
   go_end0
   exact ⟨rfl, H.out.set2, KpG.set _ _ _ H.out.hB⟩
 · clear h
   go_enter Tryz.func108, Tryz.ntmps108
   go_wp2
   rw [k3.out]
   go_wp2
   go_end0
   exact ⟨rfl, H.out, KpG.refl _ _ _⟩
theorem writeG (w : World) (B g : Nat) (lv : Value) (cur : ByteArray) (bp bv : Value) (acc : List UInt8) (s : ByteArray) (h : PrW w B g lv cur bp bv acc) (hs : acc.length + s.size ≤ 1000000000000) :
 Calls Tryz.prog 81 #[.pointer (some ⟨g, 2, none⟩), .string s] w (fun e w' => e = .returned (.tuple #[.int .i64 (s.size : Int), .nilIface]) ∧ (∃ bv', PrW w' B g lv cur (.pointer (some ⟨g, 2, none⟩)) bv' (acc ++ LA s)) ∧ KpG B g w w') := by
 have C := qh9 (checkG w B g lv cur bp bv acc h)
 have HS := qh9 hs
 clear h hs
 go_enter Tryz.func81, Tryz.ntmps81
 go_wp2_with fail
 with_reducible refine C.out.mono ?_
 rintro e w1 ⟨rfl, h1, hk1⟩
 have H1 := qh9 h1
 have K1 := qh9 hk1
 have HO := qh9 h1.own
 have HB1 := qh9 (show g + 1 ≤ w1.heap.size from h1.lt)
 have c3 := h1.c3
 clear h1 hk1 C
 go_wp2_with (at_builtin; refine appStr5 rfl (.tmp 12) (.tmp 13) rfl rfl HO.out s rfl HS.out HB1.out ?_)
 intro v' w2 o2 k2
 have O2 := qh9 o2
 have hb2 := H1.out.five k2 o2
 have P2 : Hid (PrW w2 B g lv cur (.pointer (some ⟨g, 2, none⟩)) bv (acc ++ LA s) ∨ True) := .inr trivial
 have K2 : Hid (KpG B g w2 (w2.setCell ⟨g, 3, none⟩ v')) := KpG.set _ _ _ H1.out.hB
 have KK := qh9 ((K1.out.trans (KpG.five k2 H1.out.hB)).trans K2.out)
 have HN : Hid (PrW (w2.setCell ⟨g, 3, none⟩ v') B g lv cur (.pointer (some ⟨g, 2, none⟩)) v' (acc ++ LA s)) := by
  refine ⟨H1.out.hB, ?_, .inr rfl, o2.set5 (by omega) _ _⟩
  simp [World.setCell, Array.getElem?_modify, hb2]
 have f3 : w2.frozen? ⟨g, 3, none⟩ = false := by simp [World.frozen?, hb2]
 have d3 : w2.cell? ⟨g, 3, none⟩ = some bv := by rw [cell_of_row _ _ _ _ _ _ hb2]; rfl
 obtain ⟨A, c, hv2⟩ := o2.shape
 obtain ⟨n, hn⟩ : ∃ n, (acc ++ LA s).length = n := ⟨_, rfl⟩
 rw [hn] at hv2
 clear hn
 subst hv2
 clear o2 k2 hb2 P2 K2 K1 O2 c3
 go_wp2
 go_ret2
 exact ⟨rfl, ⟨_, HN.out⟩, KK.out⟩
theorem stringG (w : World) (B g : Nat) (lv : Value) (cur : ByteArray) (bp bv : Value) (acc : List UInt8) (h : PrW w B g lv cur bp bv acc) (h0 : acc ≠ []) :
 Calls Tryz.prog 51 #[.pointer (some ⟨g, 2, none⟩)] w (fun e w' => e = .returned (.string (BA acc)) ∧ Below B w w') := by
 have c3 : w.drew.cell? ⟨g, 3, none⟩ = some bv := h.c3
 have hB := h.hB
 have hrow := h.own.row
 have hl0 : acc.length ≠ 0 := by simpa using h0
 rcases h.own.2 with ⟨_, hz⟩ | ⟨r, cap, cur', rfl, hbg, hh, hn, hcm, hcs, _⟩
 · exact absurd hz hl0
 · have hSD : (Builtin.unsafeSliceData_ #[82] 122 #[.slice (some ⟨r, 0, none⟩) acc.length cap]).run Tryz.prog w.drew = .ok (.pointer (some ⟨r, 0, none⟩)) w.drew :=
    Lib.run_unsafeSliceData_row _ _ _ _ _ _ (by omega)
   have hUS : (Builtin.unsafeString_ #[122, 3] 9 #[.pointer (some ⟨r, 0, none⟩), .int .i64 acc.length]).run Tryz.prog w.drew = .ok (.string (BA acc)) (w.drew.freeze ⟨r, 0, none⟩ acc.length) := by
    refine Lib.run_unsafeString_row w.drew 122 3 9 5 Tryz.underlying122 (by kernel_rfl) r cur'.size (by have hg' : w.drew.heap[r]? = some (.cells cur' 5 (0, 0)) := hh; simp [World.shape?, hg']) acc h0 (by omega) (by unfold maxLen at hcm; omega) ?_
    intro j x hx
    obtain ⟨hj, rfl⟩ := List.getElem?_eq_some_iff.1 hx
    exact cells_cb hrow j hj
   have HF := qh9 (Lib.below_freeze (Below.drew (Below.refl B w)) (p := ⟨r, 0, none⟩) (show B ≤ r by omega) acc.length)
   clear hB hrow hl0 hbg hh hn hcm hcs h h0
   go_enter Tryz.func51, Tryz.ntmps51
   have mixed : Tryz.prog.follows Departure.mixedOrders = true := by kernel_rfl
   go_wp2
   go_region_o
   all_goals (go_wp2; go_ret; exact ⟨rfl, HF.out⟩)
/-- A span: from s to e, with the spans of the elements. -/
inductive Spn where
 | mk (s e : Nat) (l : List Spn)
def Spn.s : Spn → Nat | .mk s _ _ => s
def Spn.e : Spn → Nat | .mk _ e _ => e
def Spn.l : Spn → List Spn | .mk _ _ l => l
/-- The list (quote x). -/
def isQU (a : Ob) : Ob → Bool
 | .cons _ e => decide (a = quoteO ∧ e = .nil)
 | _ => false
/-- A proper list. -/
def prpU : Ob → Bool
 | .cons _ d => prpU d
 | o => decide (o = .nil)
section
variable (nm : List UInt8 → List UInt8 → List UInt8)
mutual
/-- The span of an object whose text begins at n. -/
def spU : Nat → Ob → Spn
 | n, .cons a d => .mk n (n + (prO nm (.cons a d)).length) (if isQU a d = true then [] else if prpU d = true then spU (n + 1) a :: spE (n + 1 + (prO nm a).length) d else [])
 | n, .num q => .mk n (n + (numS q).length) []
 | n, .str s => .mk n (n + (escL 34 s).length) []
 | n, .sym p m => .mk n (n + (nm p m).length) []
/-- The spans of the elements of a tail. -/
def spE : Nat → Ob → List Spn
 | n, .cons a d => spU (n + 1) a :: spE (n + 1 + (prO nm a).length) d
 | _, _ => []
end
theorem prO_cons (a d : Ob) : prO nm (.cons a d) = if isQU a d = true then 39 :: prO nm (match d with | .cons x _ => x | o => o) else 40 :: (prO nm a ++ prT nm d) := by
 cases d with
 | cons x e => simp only [prO, isQU, decide_eq_true_eq]
 | num q => simp [prO, isQU]
 | str s => simp [prO, isQU]
 | sym p n => simp [prO, isQU]
theorem prT_atom {o : Ob} (h : o.isCons = false) : prT nm o = if o = .nil then [41] else 32 :: 46 :: 32 :: (prO nm o ++ [41]) := by
 cases o with
 | cons a d => exact absurd h (by simp [Ob.isCons])
 | num q => rw [if_neg (by unfold Ob.nil; simp)]; rfl
 | str s => rw [if_neg (by unfold Ob.nil; simp)]; rfl
 | sym p n => rfl
end
/-- The elements' spans lie in rows of S. -/
inductive SpL (w : World) (S : Nat → Prop) : List Spn → Value → Prop where
 | nil : SpL w S [] (.slice none 0 0)
 | row (l : List Spn) (b c : Nat) (cur : Array Value) (x : Nat → Value) : l ≠ [] → l.length ≤ c → S b → w.heap[b]? = some (.cells cur 89 (0, 0)) →
  (∀ i s e m, l[i]? = some (.mk s e m) → cur[i * 3]? = some (.int .i64 (s : Int)) ∧ cur[i * 3 + 1]? = some (.int .i64 (e : Int)) ∧ cur[i * 3 + 2]? = some (x i)) →
  (∀ i s e m, l[i]? = some (.mk s e m) → SpL w S m (x i)) → SpL w S l (.slice (some ⟨b, 0, none⟩) l.length c)
theorem SpL.keep {w w' : World} {S S' : Nat → Prop} {l : List Spn} {v : Value} (h : SpL w S l v) (hS : ∀ b, S b → S' b) (hk : ∀ b cur, S b → w.heap[b]? = some (.cells cur 89 (0, 0)) → w'.heap[b]? = w.heap[b]?) : SpL w' S' l v := by
 induction h with
 | nil => exact .nil
 | row l b c cur x h0 hc hb hh hcell _ ih => exact .row l b c cur x h0 hc (hS b hb) ((hk b cur hb hh).trans hh) hcell ih
/-- The value of a span. -/
def SpV (w : World) (S : Nat → Prop) (t : Spn) (v : Value) : Prop := ∃ x, v = .agg #[.int .i64 (t.s : Int), .int .i64 (t.e : Int), x] ∧ SpL w S t.l x
theorem SpV.leaf2 (w : World) (S : Nat → Prop) (a b : Nat) : SpV w S (.mk a (a + b) []) (.agg #[.int .i64 (a : Int), .int .i64 ((a : Int) + (b : Int)), .slice none 0 0]) := ⟨_, by simp [Spn.s, Spn.e], .nil⟩
theorem noByte {w : World} {b : Nat} {cur : Array Value} (h : w.heap[b]? = some (.cells cur 89 (0, 0))) : ∀ cur' fr, w.heap[b]? ≠ some (.cells cur' 5 fr) := fun cur' fr e => by
 rw [h] at e
 injection e with e
 injection e with _ e _
 exact absurd e (by decide)
theorem blk_lt {w : World} {b : Nat} {x : Obj} (h : w.heap[b]? = some x) : b < w.heap.size := (Array.getElem?_eq_some_iff.1 h).1
theorem SpL.kg {w w' : World} {B g : Nat} {S S' : Nat → Prop} {l : List Spn} {v : Value} (h : SpL w S l v) (hS : ∀ b, S b → S' b) (hg : ∀ b, S b → b ≠ g) (hk : KpG B g w w') : SpL w' S' l v :=
 h.keep hS fun b cur hb hh => hk.keep b (blk_lt hh) (hg b hb) (noByte hh)

/-- The elements so far. -/
def flatS (xs : List (Spn × Value)) : List Value := xs.flatMap fun x => [.int .i64 (x.1.s : Int), .int .i64 (x.1.e : Int), x.2]
theorem flatS_snoc (xs : List (Spn × Value)) (t : Spn) (x : Value) : flatS (xs ++ [(t, x)]) = flatS xs ++ [.int .i64 (t.s : Int), .int .i64 (t.e : Int), x] := by simp [flatS]
theorem flatS_get : ∀ (xs : List (Spn × Value)) (i : Nat) (t : Spn) (v : Value), xs[i]? = some (t, v) → (flatS xs)[i * 3]? = some (.int .i64 (t.s : Int)) ∧ (flatS xs)[i * 3 + 1]? = some (.int .i64 (t.e : Int)) ∧ (flatS xs)[i * 3 + 2]? = some v
 | [], i, t, v, h => by simp at h
 | x :: xs, 0, t, v, h => by
  obtain rfl : x = (t, v) := by simpa using h
  simp [flatS]
 | x :: xs, i + 1, t, v, h => by
  have h' : xs[i]? = some (t, v) := by simpa using h
  have := flatS_get xs i t v h'
  have e : flatS (x :: xs) = [.int .i64 (x.1.s : Int), .int .i64 (x.1.e : Int), x.2] ++ flatS xs := rfl
  rw [e, show (i + 1) * 3 = 3 + i * 3 from by omega]
  simp only [Nat.add_assoc]
  refine ⟨?_, ?_, ?_⟩
  · rw [List.getElem?_append_right (by simp), List.length_cons, List.length_cons, List.length_cons, List.length_nil, show 3 + i * 3 - 3 = i * 3 from by omega]; exact this.1
  · rw [List.getElem?_append_right (by simp), List.length_cons, List.length_cons, List.length_cons, List.length_nil, show 3 + (i * 3 + 1) - 3 = i * 3 + 1 from by omega]; exact this.2.1
  · rw [List.getElem?_append_right (by simp), List.length_cons, List.length_cons, List.length_cons, List.length_nil, show 3 + (i * 3 + 2) - 3 = i * 3 + 2 from by omega]; exact this.2.2
structure SpK (B : Nat) (wr : World) (v : Value) (xs : List (Spn × Value)) : Prop where
 own : wr.ownsRow B 89 3 v xs.length (flatS xs)
 sub : ∀ x ∈ xs, SpL wr (fun b => B ≤ b ∧ b < wr.heap.size ∧ v.ownBlock ≠ some b) x.1.l x.2
theorem SpK.start (w : World) (B : Nat) : SpK B w (.slice none 0 0) [] := ⟨⟨rfl, .inl ⟨rfl, rfl⟩⟩, fun x hx => by simp at hx⟩
theorem own_blk {w : World} {B : Nat} {e : TypeId} {size n : Nat} {v : Value} {xs : List Value} (h : w.ownsRow B e size v n xs) {g : Nat} (hg : v.ownBlock = some g) : ∃ cur, w.heap[g]? = some (.cells cur e (0, 0)) := by
 rcases h.2 with ⟨rfl, _⟩ | ⟨g', cap, cur, rfl, hb, hh, _⟩
 · simp [Value.ownBlock] at hg
 · have e : g' = g := by simpa [Value.ownBlock] using hg
   exact ⟨cur, e ▸ hh⟩
/-- Behind what keeps every row of spans. -/
theorem SpK.keep {B : Nat} {w w' : World} {v : Value} {xs : List (Spn × Value)} (h : SpK B w v xs) (hs : w.heap.size ≤ w'.heap.size) (hk : ∀ b cur, B ≤ b → w.heap[b]? = some (.cells cur 89 (0, 0)) → w'.heap[b]? = w.heap[b]?) : SpK B w' v xs :=
 ⟨own_keep h.own fun g hg => by
  obtain ⟨cur, hh⟩ := own_blk h.own hg
  exact hk g cur (own_lt h.own g hg).1 hh, fun x hx => (h.sub x hx).keep (fun b hb => ⟨hb.1, by omega, hb.2.2⟩) fun b cur hb hh => hk b cur hb.1 hh⟩
theorem SpK.kg {B B' g : Nat} {w w' : World} {v : Value} {xs : List (Spn × Value)} (h : SpK B w v xs) (hk : KpG B' g w w') (hg : g < B) : SpK B w' v xs :=
 h.keep hk.bel.size fun b cur hb hh => hk.keep b (blk_lt hh) (by omega) (noByte hh)
theorem SpK.below {B : Nat} {w w' : World} {v : Value} {xs : List (Spn × Value)} (h : SpK B w v xs) (hb : Below w.heap.size w w') : SpK B w' v xs :=
 h.keep hb.size fun b cur _ hh => hb.block b (blk_lt hh)
/-- One more. -/
theorem SpK.step {B : Nat} {w w3 w4 : World} {v v' : Value} {xs : List (Spn × Value)} (h : SpK B w v xs) {S : Nat → Prop} {t : Spn} {x : Value} (hx : SpL w S t.l x) (hS : ∀ b, S b → B ≤ b ∧ b < w.heap.size ∧ v.ownBlock ≠ some b) (hb : Below w.heap.size w w3)
 (h4 : w4.ownsRow B 89 3 v' (xs.length + 1) (flatS xs ++ [.int .i64 (t.s : Int), .int .i64 (t.e : Int), x])) (hg : w3.grownBy w4 v.ownBlock) (hat : v'.ownBlock = v.ownBlock ∨ v'.ownBlock = some w3.heap.size) :
 SpK B w4 v' (xs ++ [(t, x)]) := by
 have h34 := hg.size
 have hs3 := hb.size
 have blk : ∀ b, b < w.heap.size → v.ownBlock ≠ some b → w4.heap[b]? = w.heap[b]? := fun b hb' hne =>
  (hg.block b (by omega) (fun e => hne e.symm)).trans (hb.block b hb')
 have hne' : ∀ b, b < w.heap.size → v.ownBlock ≠ some b → v'.ownBlock ≠ some b := fun b hb' hne e => by
  rcases hat with h0 | h0
  · exact hne (h0.symm.trans e)
  · rw [h0] at e
    have : w3.heap.size = b := by injection e
    omega
 refine ⟨by rw [flatS_snoc, List.length_append]; exact h4, fun y hy => ?_⟩
 rcases List.mem_append.1 hy with hy | hy
 · exact (h.sub y hy).keep (fun b hb' => ⟨hb'.1, by omega, hne' b hb'.2.1 hb'.2.2⟩) (fun b cur hb' _ => blk b hb'.2.1 hb'.2.2)
 · obtain rfl : y = (t, x) := by simpa using hy
   exact hx.keep (fun b hb' => ⟨(hS b hb').1, by have := (hS b hb').2.1; omega, hne' b (hS b hb').2.1 (hS b hb').2.2⟩) (fun b cur hb' _ => blk b (hS b hb').2.1 (hS b hb').2.2)
/-- The list as it is at the end. -/
theorem SpK.fin {B : Nat} {w : World} {v : Value} {xs : List (Spn × Value)} (h : SpK B w v xs) (h0 : xs ≠ []) : SpL w (fun b => B ≤ b ∧ b < w.heap.size) (xs.map (·.1)) v := by
 have hpos : 0 < xs.length := List.length_pos_iff.2 h0
 rcases h.own.2 with ⟨_, hz⟩ | ⟨g, cap, cur, rfl, hb, hh, hn, _, hcs, htake⟩
 · omega
 · have hl : (xs.map (·.1)).length = xs.length := by simp
   rw [← hl]
   have key : ∀ (i s e : Nat) (m : List Spn), (xs.map (·.1))[i]? = some (Spn.mk s e m) → ∃ x, xs[i]? = some (Spn.mk s e m, x) := fun i s e m hi => by
    rw [List.getElem?_map] at hi
    cases hx : xs[i]? with
    | none => rw [hx] at hi; simp at hi
    | some y => rw [hx] at hi; simp at hi; exact ⟨y.2, by rw [← hi]⟩
   have hcur : ∀ j u, (flatS xs)[j]? = some u → cur[j]? = some u := fun j u hj => by
    rw [← htake, List.getElem?_take] at hj
    split at hj
    · simpa using hj
    · cases hj
   refine SpL.row (w := w) (S := fun b => B ≤ b ∧ b < w.heap.size) (xs.map (·.1)) g cap cur (fun i => ((xs[i]?).map (·.2)).getD undef) (by simpa using h0) (by omega) (show B ≤ g ∧ g < w.heap.size from ⟨hb, blk_lt hh⟩) hh (fun i s e m hi => ?_) (fun i s e m hi => ?_)
   · obtain ⟨x, hx⟩ := key i s e m hi
     obtain ⟨h1, h2, h3⟩ := flatS_get xs i _ x hx
     refine ⟨hcur _ _ h1, hcur _ _ h2, ?_⟩
     rw [hx]
     exact hcur _ _ h3
   · obtain ⟨x, hx⟩ := key i s e m hi
     show SpL w _ m (((xs[i]?).map (·.2)).getD undef)
     rw [hx]
     exact (h.sub (Spn.mk s e m, x) (List.mem_of_getElem? hx)).keep (S' := fun b => B ≤ b ∧ b < w.heap.size) (fun b hb => ⟨hb.1, hb.2.1⟩) (fun _ _ _ _ => rfl)
/-- The printing stands where a row of spans grows. -/
theorem OwnB.rows {w w' : World} {B : Nat} {v : Value} {l : List UInt8} (h : OwnB w B v l) (hk : ∀ (r : Nat) (cur : Array Value), w.heap[r]? = some (.cells cur 5 (0, 0)) → w'.heap[r]? = w.heap[r]?) : OwnB w' B v l := by
 refine ⟨h.1, ?_⟩
 rcases h.2 with hn' | ⟨r, cap, cur, rfl, h1, hh, h2⟩
 · exact .inl hn'
 · exact .inr ⟨r, cap, cur, rfl, h1, (hk r cur hh).trans hh, h2⟩
theorem SpK.noByte {B : Nat} {w : World} {v : Value} {xs : List (Spn × Value)} (h : SpK B w v xs) {r : Nat} {cur : Array Value} (hr : w.heap[r]? = some (.cells cur 5 (0, 0))) : v.ownBlock ≠ some r := fun e => by
 obtain ⟨cur', hh⟩ := own_blk h.own e
 exact Go.Proofs.YtlmnjelideegnaaGreatDoor.noByte hh _ _ hr
theorem PrW.grown {w w3 w4 : World} {B B' g : Nat} {lv : Value} {cur : ByteArray} {bp bv v : Value} {acc : List UInt8} {xs : List (Spn × Value)} (h : PrW w B g lv cur bp bv acc) (hK : SpK B' w v xs) (hg' : g < B') (hb : Below w.heap.size w w3) (hg : w3.grownBy w4 v.ownBlock) : PrW w4 B g lv cur bp bv acc := by
 have hs3 := hb.size
 have blk : ∀ b, b < w.heap.size → v.ownBlock ≠ some b → w4.heap[b]? = w.heap[b]? := fun b hb' hne =>
  (hg.block b (by omega) (fun e => hne e.symm)).trans (hb.block b hb')
 exact ⟨h.hB, (blk g h.lt (fun e => by have := (own_lt hK.own g e).1; omega)).trans h.blk, h.ptr, h.own.rows fun r cur hr => blk r (blk_lt hr) (hK.noByte hr)⟩
theorem KpG.grown {B g B' : Nat} {w w2 w3 w4 : World} {v : Value} {xs : List (Spn × Value)} (h : KpG B g w w2) (hK : SpK B' w2 v xs) (hB : B ≤ w.heap.size) (hB' : w.heap.size ≤ B') (hb : Below w2.heap.size w2 w3) (hg : w3.grownBy w4 v.ownBlock) : KpG B g w w4 := by
 have hs := h.bel.size
 have hs3 := hb.size
 have hlt := own_lt hK.own
 refine ⟨(h.bel.trans (hb.mono (by omega))).grown hg (by omega) (fun k hk => by have := (hlt k hk).1; omega), fun k hk hkg hn => ?_⟩
 exact ((hg.block k (by omega) (fun e => by have := (hlt k e.symm).1; omega)).trans (hb.block k (by omega))).trans (h.keep k hk hkg hn)
theorem cells_of_strs {H : Type} {enc : TypeId × Value → H} {P : Program} {w : World} {base : Nat} {sp : Nat → Bool} {held : Bool} {fuel : Nat} {t e : TypeId} {n : Nat} {cs : List Value} {ss : List (List UInt8)} {p : List MemPlace}
 (ht : P.underlying t = some (.array n e)) (he : P.underlying e = some .string) (hce : P.cellsOf e = 1) (hct : P.cellsOf t = n)
 (h : DataW.trod enc P w base sp held fuel t cs = some (.agg (ss.map fun s => .lit (.string s)), p)) : cs = ss.map fun s => Value.string ⟨s.toArray⟩ := by
 cases fuel with
 | zero => simp [DataW.trod] at h
 | succ fuel =>
  simp only [DataW.trod, ht, hce, hct, Nat.mul_one] at h
  split at h
  · rename_i hl
    obtain ⟨xs, hm, hx⟩ := Option.map_eq_some_iff.1 h
    have hxs : xs.map (·.1) = ss.map fun s => (DataW.lit (.string s) : DataW H) := by
     have := congrArg Prod.fst hx
     simpa using this
    have hxl : xs.length = n := by simpa using Lib.mapM_length hm
    have hzl : ss.length = n := by
     have := congrArg List.length hxs
     simp at this
     omega
    apply List.ext_getElem?
    intro i
    by_cases hi : i < n
    · obtain ⟨b, hb, hf⟩ := Lib.mapM_at hm i i (by simp [hi])
      obtain ⟨z, hc, rfl, _⟩ := DataW.trod_string he hf
      have h1 : cs[i]? = some (.string z) := by
       have := congrArg (·[0]?) hc
       simpa [List.getElem?_take, List.getElem?_drop] using this
      have h2 : (xs.map (·.1))[i]? = some (DataW.lit (.string z.data.toList) : DataW H) := by simp [hb]
      rw [hxs] at h2
      simp only [List.getElem?_map, Option.map_eq_some_iff, DataW.lit.injEq, Lit.string.injEq] at h2
      obtain ⟨z', hz', hzz⟩ := h2
      simp [h1, hz', hzz]
    · rw [List.getElem?_eq_none (by omega), List.getElem?_eq_none (by simp; omega)]
  · cases h
/-- The call added this text. -/
def RetG (B g : Nat) (lv : Value) (cur : ByteArray) (acc : List UInt8) (t : Spn) (w : World) (e : Ending) (w' : World) : Prop :=
 (∃ v, e = .returned v ∧ SpV w' (fun b => w.heap.size ≤ b ∧ b < w'.heap.size) t v) ∧ (∃ bp bv, PrW w' B g lv cur bp bv acc) ∧ KpG B g w w'
theorem Bx.kg {w w' : World} {B g k : Nat} {x : Array Value} (h : Bx w k x) (hk : KpG B g w w') (hg : k ≠ g) : Bx w' k x := (hk.keep k h.lt hg (fun cur fr e => by
 have h' := h
 unfold Bx at h'
 rw [h'] at e
 injection e with e
 injection e with _ e _
 exact absurd e (by decide))).trans h
/-- A span in a box. -/
def SpB (w : World) (g : Nat) (x y z : Value) : Prop := w.heap[g]? = some (.cells #[x, y, z] 89 (0, 0))
theorem SpB.lt {w : World} {g : Nat} {x y z : Value} (h : SpB w g x y z) : g < w.heap.size := Sy.blk_ltY h
theorem SpB.keep {w w' : World} {g : Nat} {x y z : Value} (h : SpB w g x y z) (hb : Below w.heap.size w w') : SpB w' g x y z := (hb.block g h.lt).trans h
theorem SpB.kg {w w' : World} {B g k : Nat} {x y z : Value} (h : SpB w k x y z) (hk : KpG B g w w') (hg : k ≠ g) : SpB w' k x y z := (hk.keep k h.lt hg (fun cur fr e => by
 have h' := h
 unfold SpB at h'
 rw [h'] at e
 injection e with e
 injection e with _ e _
 exact absurd e (by decide))).trans h
theorem SpB.run {w : World} {g : Nat} {x y z : Value} (hg : SpB w g x y z) : (loadVar 89 ⟨g, 0, none⟩).run Tryz.prog w = .ok (.agg #[x, y, z]) w :=
 run_loadVar_row w g 89 89 #[x, y, z] (0, 0) _ hg Tryz.underlying89 rfl (by kernel_rfl)
theorem SpB.store {ops : Array Oper} {rest : List Oper} {o : Oper} {a : Act} {w : World} {Q : Exit → Act → World → Prop} (x y : Operand) (ho : o.op = .store 89 x y) (hgd : o.guard = none)
 (g : Nat) (u v t u0 v0 t0 : Value) (hx : a.eval x = .pointer (some ⟨g, 0, none⟩)) (hy : a.eval y = .agg #[u, v, t]) (hg : SpB w g u0 v0 t0) (h1 : u.oneCell' = true) (h2 : v.oneCell' = true) (h3 : t.oneCell' = true)
 (h : wpList Tryz.prog ops Q rest (a.put o.dst undef) (w.setRow g #[u, v, t])) : wpList Tryz.prog ops Q (o :: rest) a w :=
 wpList_store_row hgd 89 x y ho g #[u, v, t] hx hy 89 #[u0, v0, t0] hg (by kernel_rfl) rfl (by simp [h1, h2, h3]) h
theorem retSp {fn : Func} {r0 : Tmp} {tmps : Array Value} {w : World} {g : Nat} {u v t : Value} {Q : Ending → World → Prop} (h : fn.results = #[.cell r0 89]) (h0 : tmps.getD r0 undef = .pointer (some ⟨g, 0, none⟩))
 (hg : SpB w g u v t) (hQ : Q (.returned (.agg #[u, v, t])) w) : bodyPost Tryz.prog fn Q Exit.ret ⟨tmps, []⟩ w := by
 have h0' : tmps[r0]?.getD undef = .pointer (some ⟨g, 0, none⟩) := by simpa using h0
 exact bodyPost_ret (v := .agg #[u, v, t]) (by simp [results, h, h0', asAddr, hg.run]) rfl hQ
theorem OwnB.typ {w w' : World} {B k : Nat} {v : Value} {l : List UInt8} (h : OwnB w B v l) (hk : ∀ j, j ≠ k → w'.heap[j]? = w.heap[j]?) (hn : ∀ cur fr, w.heap[k]? ≠ some (.cells cur 5 fr)) : OwnB w' B v l := by
 refine ⟨h.1, ?_⟩
 rcases h.2 with hn' | ⟨r, cap, cur, rfl, h1, hh, h2⟩
 · exact .inl hn'
 · refine .inr ⟨r, cap, cur, rfl, h1, (hk r ?_).trans hh, h2⟩
   rintro rfl
   exact hn _ _ hh
theorem SpB.noRow {w : World} {k : Nat} {x y z : Value} (h : SpB w k x y z) : ∀ cur fr, w.heap[k]? ≠ some (.cells cur 5 fr) := fun cur fr e => by
 unfold SpB at h
 rw [h] at e
 injection e with e
 injection e with _ e _
 exact absurd e (by decide)
theorem PrW.typ {w w' : World} {B g k : Nat} {lv : Value} {cur : ByteArray} {bp bv : Value} {acc : List UInt8} (h : PrW w B g lv cur bp bv acc) (hk : ∀ j, j ≠ k → w'.heap[j]? = w.heap[j]?) (hg : k ≠ g) (hn : ∀ cur fr, w.heap[k]? ≠ some (.cells cur 5 fr)) : PrW w' B g lv cur bp bv acc :=
 ⟨h.hB, (hk g (fun e => hg e.symm)).trans h.blk, h.ptr, h.own.typ hk hn⟩
theorem KpG.cell {B g : Nat} {a b : World} (h : KpG B g a b) (k i : Nat) (u : Value) (hk : a.heap.size ≤ k) (hB : B ≤ a.heap.size) : KpG B g a (b.setCell ⟨k, i, none⟩ u) :=
 ⟨h.bel.setCell (p := ⟨k, i, none⟩) (Nat.le_trans hB hk) u, fun j hj hg hn => (Below.heap_setCell b ⟨k, i, none⟩ u j (show j ≠ k by omega)).trans (h.keep j hj hg hn)⟩
theorem KpG.row {B g : Nat} {a b : World} (h : KpG B g a b) (k : Nat) (x : Array Value) (hk : a.heap.size ≤ k) (hB : B ≤ a.heap.size) : KpG B g a (b.setRow k x) :=
 ⟨below_setRow h.bel (Nat.le_trans hB hk) x, fun j hj hg hn => (setRow_other b k j x (show j ≠ k by omega)).trans (h.keep j hj hg hn)⟩
theorem objNumG (q : Rat) (p : Value) (w : World) (B g : Nat) (lv : Value) (cur : ByteArray) (bp bv : Value) (acc : List UInt8) (h : PrW w B g lv cur bp bv acc) (hB : B ≤ w.heap.size) (hb : Bd 900 q) (hs : acc.length ≤ 100000000) :
 Calls Tryz.prog 50 #[.pointer (some ⟨g, 0, none⟩), vO (.num q) p] w (RetG B g lv cur (acc ++ numS q) (.mk acc.length (acc.length + (numS q).length) []) w) := by
 have ea : cellsO (.num q) p = [.int .i64 1, .string (nt q), .string (dt q), .string ⟨#[]⟩, .string ⟨#[]⟩, .string ⟨#[]⟩, p] := rfl
 have T := Bx1.new w #[.int .i64 1, .string (nt q), .string (dt q), .string ⟨#[]⟩, .string ⟨#[]⟩, .string ⟨#[]⟩, p]
 have C := qh9 (fun X => numberTextP q p X hb)
 have H := qh9 h
 rw [vO_cells ea]
 go_enter Tryz.func50, Tryz.ntmps50
 go_upto_region 1 with fail
 generalize hW1 : ((w.alloc (.cells #[.int .i64 1, .string (nt q), .string (dt q), .string ⟨#[]⟩, .string ⟨#[]⟩, .string ⟨#[]⟩, p] 39)).alloc (.cells #[.int .i64 0, .int .i64 0, .slice none 0 0] 89)) = W1
 have hal : Below w.heap.size w W1 := by rw [← hW1]; exact T.bel.trans (Below.mono (below_al _ _) T.bel.size)
 have HB1 := qh9 hal
 have B0 : Hid (Bx W1 w.heap.size #[.int .i64 1, .string (nt q), .string (dt q), .string ⟨#[]⟩, .string ⟨#[]⟩, .string ⟨#[]⟩, p]) := by
  show Bx _ _ _
  rw [← hW1]
  exact T.b0.keep (below_al _ _)
 have R1 : Hid (SpB W1 (w.heap.size + 1) (.int .i64 0) (.int .i64 0) (.slice none 0 0)) := by
  show SpB _ _ _ _ _
  rw [← hW1]
  have e := heap_alloc_new (w.alloc (.cells #[.int .i64 1, .string (nt q), .string (dt q), .string ⟨#[]⟩, .string ⟨#[]⟩, .string ⟨#[]⟩, p] 39)) (.cells #[.int .i64 0, .int .i64 0, .slice none 0 0] 89)
  have e2 : (w.alloc (.cells #[.int .i64 1, .string (nt q), .string (dt q), .string ⟨#[]⟩, .string ⟨#[]⟩, .string ⟨#[]⟩, p] 39)).heap.size = w.heap.size + 1 := by simp
  rw [e2] at e
  exact e
 rw [vO_cells ea] at C
 have H1 := qh9 (H.out.keep hal)
 clear T hal hW1 ea
 have hgl := H.out.lt
 have gne1 : w.heap.size + 1 ≠ g := by omega
 have gne2 : W1.heap.size ≠ g := by have := R1.out.lt; omega
 have gne3 : W1.heap.size ≠ w.heap.size + 1 := by have := R1.out.lt; omega
 have G1 := qh9 gne1
 have G2 := qh9 gne2
 have G3 := qh9 gne3
 have G4 : Hid (w.heap.size ≤ W1.heap.size) := HB1.out.size
 have ACL := qh9 hs
 have hzn : (BA (numS q)).size ≤ 2000 := by
  rw [numS_bytes]
  have z1 := bd_nt hb
  have z2 := bd_dt hb
  have z3 : (⟨#[47]⟩ : ByteArray).size = 1 := rfl
  split
  · omega
  · rw [ByteArray.size_append, ByteArray.size_append]; omega
 have ZN := qh9 hzn
 have hBg := H.out.hB
 have HBW := qh9 hB
 clear H h gne1 gne2 gne3 hs hb hzn hgl hB
 go_wp2_with fail
 with_reducible refine (lenG _ B g lv cur bp bv acc H1.out).mono ?_
 rintro e w2 ⟨rfl, rfl⟩
 go_upto_region 2 with fail
 generalize hW2 : w2.alloc (.cells #[.int .i64 (acc.length : Int), .int .i64 0, .slice none 0 0] 89) = W2
 have hal : Below w2.heap.size w2 W2 := by rw [← hW2]; exact below_al _ _
 have R2 : Hid (SpB W2 w2.heap.size (.int .i64 (acc.length : Int)) (.int .i64 0) (.slice none 0 0)) := by
  show SpB _ _ _ _ _
  rw [← hW2]
  exact heap_alloc_new _ _
 replace B0 := qh9 (B0.out.keep hal)
 replace H1 := qh9 (H1.out.keep hal)
 replace R1 := qh9 (R1.out.keep hal)
 replace HB1 := qc9 HB1 hal
 generalize w2.heap.size = k2 at R2 G2 G3 G4 ⊢
 clear hal hW2
 obtain ⟨m0, m1, m2, m3, m4, m5, m6⟩ := Bx.c B0.out
 go_upto_region 4 with fail
 have BD := qh9 (B0.out.keep ((Below.refl W2.heap.size W2).drew))
 have HD := qh9 (H1.out.keep ((Below.refl W2.heap.size W2).drew))
 obtain ⟨n0, n1, n2, n3, n4, n5, n6⟩ := Bx.c BD.out
 go_region_with (first | (go_at_call 82; (with_reducible refine (C.out _).mono ?_); rintro e w3 ⟨rfl, hb3⟩; have HP := qh9 (HD.out.keep hb3); have K3 := qh9 ((Below.drew (Below.refl W2.heap.size W2)).trans hb3)) | (go_at_call 81; refine (writeG _ B g lv cur _ _ acc (BA (numS q)) HP.out (by have := ZN.out; have := ACL.out; omega)).mono ?_; rintro e w4 ⟨rfl, ⟨bv4, hp4⟩, hk4⟩; have HP4 := qh9 hp4; have K4 := qh9 hk4))
 have P4 : Hid (PrW w4 B g lv cur (.pointer (some ⟨g, 2, none⟩)) bv4 (acc ++ numS q)) := by
  have := HP4.out
  rwa [LA_BA] at this
 have Q1 := qh9 ((R1.out.keep K3.out).kg K4.out G1.out)
 have Q2 := qh9 ((R2.out.keep K3.out).kg K4.out G2.out)
 have KA := qh9 (((KpG.of (g := g) HB1.out HBW.out).trans (KpG.of (g := g) K3.out (Nat.le_trans HBW.out HB1.out.size))).trans K4.out)
 go_wp2_with fail
 with_reducible refine (lenG _ B g lv cur _ bv4 _ P4.out).mono ?_
 rintro e w5 ⟨rfl, rfl⟩
 have u1 : w5.cell? ⟨k2, 1, none⟩ = some (.int .i64 0) := by rw [cell_of_row _ _ _ _ _ _ Q2.out]; rfl
 have u2 : w5.frozen? ⟨k2, 1, none⟩ = false := by
  have e := Q2.out
  unfold SpB at e
  simp [World.frozen?, e]
 go_upto_region 12 with fail
 have kk : ∀ j, j ≠ k2 → (w5.setCell ⟨k2, 1, none⟩ (.int .i64 ((acc.length : Int) + ((numS q).length : Int)))).heap[j]? = w5.heap[j]? := fun j hj => Below.heap_setCell w5 ⟨k2, 1, none⟩ _ j hj
 have V2 : Hid (SpB (w5.setCell ⟨k2, 1, none⟩ (.int .i64 ((acc.length : Int) + ((numS q).length : Int)))) k2 (.int .i64 (acc.length : Int)) (.int .i64 ((acc.length : Int) + ((numS q).length : Int))) (.slice none 0 0)) := by
  have e := Q2.out
  show SpB _ _ _ _ _
  unfold SpB at e ⊢
  simp [World.setCell, Array.getElem?_modify, e]
 have V1 : Hid (SpB (w5.setCell ⟨k2, 1, none⟩ (.int .i64 ((acc.length : Int) + ((numS q).length : Int)))) (w.heap.size + 1) (.int .i64 0) (.int .i64 0) (.slice none 0 0)) := (kk _ (fun e => G3.out e.symm)).trans Q1.out
 have P6 := qh9 (P4.out.typ kk G2.out Q2.out.noRow)
 have K6 := qh9 (KA.out.cell k2 1 (.int .i64 ((acc.length : Int) + ((numS q).length : Int))) G4.out HBW.out)
 clear u1 u2 m0 m1 m2 m3 m4 m5 m6 kk
 generalize w5.setCell ⟨k2, 1, none⟩ (.int .i64 ((acc.length : Int) + ((numS q).length : Int))) = W6 at V2 V1 P6 K6 ⊢
 have l0 : W6.cell? ⟨k2, 0, none⟩ = some (.int .i64 (acc.length : Int)) := by rw [cell_of_row _ _ _ _ _ _ V2.out]; rfl
 have l1 : W6.cell? ⟨k2, 1, none⟩ = some (.int .i64 ((acc.length : Int) + ((numS q).length : Int))) := by rw [cell_of_row _ _ _ _ _ _ V2.out]; rfl
 have l2 : W6.cell? ⟨k2, 2, none⟩ = some (.slice none 0 0) := by rw [cell_of_row _ _ _ _ _ _ V2.out]; rfl
 have kk : ∀ x j, j ≠ w.heap.size + 1 → (W6.setRow (w.heap.size + 1) x).heap[j]? = W6.heap[j]? := fun x j hj => setRow_other W6 _ j x hj
 go_wp2_with ((with_reducible refine SpB.store (.tmp 4) (.tmp 58) ?_ ?_ (w.heap.size + 1) (.int .i64 (acc.length : Int)) (.int .i64 ((acc.length : Int) + ((numS q).length : Int))) (.slice none 0 0) (.int .i64 0) (.int .i64 0) (.slice none 0 0) ?_ ?_ V1.out ?_ ?_ ?_ ?_); rfl; rfl; rfl; rfl; rfl; rfl; rfl)
 exact retSp rfl rfl (setRow_heap _ _ _ _ _ _ V1.out) ⟨⟨_, rfl, SpV.leaf2 _ _ acc.length (numS q).length⟩, ⟨_, _, P6.out.typ (kk _) G1.out V1.out.noRow⟩, K6.out.row _ _ (by omega) HBW.out⟩
end Go.Proofs.YtlmnjelideegnaaGreatDoor
