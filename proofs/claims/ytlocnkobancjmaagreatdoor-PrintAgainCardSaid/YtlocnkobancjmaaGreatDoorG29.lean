import Derived.Test.YtlocnkobancjmaaGreatDoorAl
import Derived.Test.YtlocnkobancjmaaGreatDoorG14
import Derived.Test.YtlocnkobancjmaaGreatDoorG28
import Derived.Lib.AppendStr
import Derived.Test.YtlocnkobancjmaaGreatDoorG12
import Derived.Test.YtlocnkobancjmaaGreatDoorG26
import Derived.Test.YtlocnkobancjmaaGreatDoorG24
import Derived.Test.YtlocnkobancjmaaGreatDoorG23
import Derived.Lib.LaidTab
import Derived.Test.YtlocnkobancjmaaGreatDoorG19
import Derived.Test.YtlocnkobancjmaaGreatDoorG13
import Derived.Test.YtlocnkobancjmaaGreatDoorG17
namespace Go.Proofs.YtlocnkobancjmaaGreatDoor
open Go Go.RowKit
set_option linter.unusedVariables false
set_option maxHeartbeats 32000000
set_option maxRecDepth 100000
/-- A string appended to bytes of the call's own. -/
theorem appStr5 {ops : Array Oper} {rest : List Oper} {o : Oper} {a : Act} {w : World} {Q : Exit → Act → World → Prop} (hgd : o.guard = none) (sl x : Operand)
 (ho : o.op = .call { callee := .builtin .append, args := #[sl, x], argTypes := #[100, 9] }) {B : Nat} {v : Value} {l : List UInt8} (hs : a.eval sl = v) (hown : OwnB w B v l) (s : ByteArray) (hx : a.eval x = .string s)
 (hl : l.length + s.size ≤ 1000000000000) (hB : B ≤ w.heap.size)
 (h : ∀ v' w', OwnB w' B v' (l ++ LA s) → Kp5 B w w' → wpList Tryz.prog ops Q rest (a.put o.dst v') w') : wpList Tryz.prog ops Q (o :: rest) a w := by
 obtain ⟨i0, hi, hz0, hz1, hz2⟩ := info_parts info8
 refine Lib.wpList_append_own_string w hgd sl x 100 9 ho B 5 i0 Tryz.underlying100 Tryz.underlying9 hi hz0 hz1 hz2 v l.length (cb l) hs hown.row s hx (by unfold maxLen; omega) (by omega) hB ?_
 intro v' w' h1 h2 _
 have h3 : Lib.strCells s = cb (LA s) := rfl
 rw [h3, ← cb_append5] at h1
 exact h v' w' (OwnB.of_cells h1) (hown.grown5 h2 hB)
theorem OwnB.iter_ {w : World} {B : Nat} {v : Value} {l : List UInt8} (h : OwnB w B v l) {k : Nat} {s : ByteArray} {pos : Nat} (hk : w.heap[k]? = some (.stringIter s pos)) (pos' : Nat) : OwnB (w.iterAt k s pos') B v l := by
 refine ⟨h.1, ?_⟩
 rcases h.2 with hn | ⟨g, cap, cur, rfl, h1, hh, h2⟩
 · exact .inl hn
 · refine .inr ⟨g, cap, cur, rfl, h1, (Lib.iterAt_other w k g s pos' ?_).trans hh, h2⟩
   rintro rfl
   rw [hk] at hh
   cases hh
theorem OwnB.alloc_ {w : World} {B : Nat} {v : Value} {l : List UInt8} (h : OwnB w B v l) (o : Obj) : OwnB (w.alloc o) B v l := h.kept5 (below_al w o)
/-- In the loop: the iterator's place p; what is written of what is looked at. -/
structure EncW (w wr : World) (s : ByteArray) (m : UInt8) (p j d : Nat) (sl : Value) (acc : List UInt8) : Prop where
 it : wr.heap[w.heap.size + 1]? = some (.stringIter s p)
 own : OwnB wr w.heap.size sl acc
 bel : Below w.heap.size w wr
 inv : EncI m (LA s) acc d j
theorem EncW.next {w wr : World} {s : ByteArray} {m : UInt8} {p j d : Nat} {sl : Value} {acc : List UInt8} (h : EncW w wr s m p j d sl acc) (p' : Nat) : EncW w (wr.iterAt (w.heap.size + 1) s p') s m p' j d sl acc :=
 ⟨Lib.iterAt_heap _ _ _ _ _ h.it, h.own.iter_ h.it _, Lib.below_iterAt h.bel (by omega) _ _, h.inv⟩
theorem EncW.keep {w wr w' : World} {s : ByteArray} {m : UInt8} {p j d : Nat} {sl : Value} {acc : List UInt8} (h : EncW w wr s m p j d sl acc) (hb : Below wr.heap.size wr w') : EncW w w' s m p j d sl acc :=
 ⟨(hb.block _ (Array.getElem?_eq_some_iff.1 h.it).1).trans h.it, h.own.kept5 hb, h.bel.trans (hb.mono h.bel.size), h.inv⟩
theorem EncW.app {w wr w' : World} {s : ByteArray} {m : UInt8} {p j d j' d' : Nat} {sl v : Value} {acc acc' : List UInt8} (h : EncW w wr s m p j d sl acc) (hk : Kp5 w.heap.size wr w') (ho : OwnB w' w.heap.size v acc') (hi : EncI m (LA s) acc' d' j') : EncW w w' s m p j' d' v acc' :=
 ⟨(hk.keep _ (Array.getElem?_eq_some_iff.1 h.it).1 (fun cur fr e => by rw [h.it] at e; cases e)).trans h.it, ho, h.bel.trans hk.bel, hi⟩
/-- None of the bytes of a rune that is not ASCII is a mark. -/
theorem high_seg (s : ByteArray) (j k : Nat) (hk : j + k ≤ s.size) (h : ∀ i (hi : i < s.size), j ≤ i → i < j + k → 128 ≤ (s[i]'hi).toNat) (m : UInt8) (hm : m.toNat < 128) : ∀ c ∈ ((LA s).drop j).take k, c ≠ m ∧ c ≠ 92 := by
 intro c hc
 obtain ⟨i, hi, rfl⟩ := List.mem_iff_getElem.1 hc
 have hi2 := hi
 rw [List.length_take, List.length_drop] at hi2
 have hij : j + i < s.size := by
  have e : (LA s).length = s.size := rfl
  omega
 have e : (((LA s).drop j).take k)[i] = s[j + i]'hij := by rw [List.getElem_take, List.getElem_drop]; rfl
 have h1 := h (j + i) hij (by omega) (by omega)
 rw [← e] at h1
 refine ⟨?_, ?_⟩
 · intro e2
   rw [e2] at h1
   omega
 · intro e2
   rw [e2] at h1
   exact absurd h1 (by decide)
theorem EncW.size {w wr : World} {s : ByteArray} {m : UInt8} {p j d : Nat} {sl : Value} {acc : List UInt8} (h : EncW w wr s m p j d sl acc) : w.heap.size ≤ wr.heap.size := h.bel.size
theorem enclose0 (s : ByteArray) (w : World) (hT : w.cell? ⟨0, 0, none⟩ = some (.string ⟨#[34, 92]⟩)) (hs : s.size ≤ 100000000) :
 Calls Tryz.prog 124 #[.int .i64 0, .string s] w (RetTU w (BA (escL 34 (LA s)))) := by
 have hgl : 0 < w.heap.size := World.block_lt_of_cell? w _ hT
 have HG := qh9 hgl
 have HT := qh9 hT
 have HS := qh9 hs
 clear hgl hs
 go_enter Tryz.func124, Tryz.ntmps124
 go_wp2
 clear hT
 go_loopw [6, 7] (fun v u wr => ∃ (j d : Nat) (acc : List UInt8) (sl : Value), sl = v ∧ u = .int .i64 (d : Int) ∧ Hid (EncW w wr s 34 j j d sl acc)) (fun _ _ wr => s.size - wr.iterPos (w.heap.size + 1))
 case atStart =>
  refine ⟨0, 0, [34], _, rfl, rfl, ?_, ?_, ?_, EncI.start _ _⟩
  · have h := World.iter_heap (w.alloc (.cells #[.int .u8 34] 5)) s 0
    have e : (w.alloc (.cells #[.int .u8 34] 5)).heap.size = w.heap.size + 1 := by simp
    rw [e] at h
    exact h
  · exact OwnB.alloc_ (OwnB.of_cells (World.ownsRow_lit w #[.int .u8 34] 1 (Nat.le_refl _) (by decide) rfl)) _
  · exact ((Below.refl _ w).alloc (Nat.le_refl _) _).alloc (by simp) _
 case round =>
  obtain ⟨j, d, acc, sl, rfl, rfl, HI⟩ := hrel
  by_cases hp : j < s.size
  · by_cases ha : (s[j]'hp).toNat < 128
    · have hnx : ∀ ty, (Instr.next (.pointer (some ⟨w.heap.size + 1, 0, none⟩)) true ty).run Tryz.prog wr = _ := fun ty => Lib.run_next_ascii_at wr (w.heap.size + 1) s j ty HI.out.it hp ha
      have HI2 := qh9 (HI.out.next (j + 1))
      go_upto_region 7 with fail
      clear hnx
      generalize wr.iterAt (w.heap.size + 1) s (j + 1) = X at HI2 ⊢
      have HSZ := qh9 HI2.out.size
      have c0 : X.cell? ⟨0, 0, none⟩ = some (.string ⟨#[34, 92]⟩) := by rw [HI2.out.bel.cell (show 0 < w.heap.size from HG.out)]; exact HT.out
      have hjl : j < (LA s).length := hp
      have hij := qh9 HI2.out.inv.1
      have hln := qh9 HI2.out.inv.len
      by_cases hc : s[j]'hp = 34 ∨ s[j]'hp = 92
      · have C : Hid (∀ Y, Calls Tryz.prog 173 #[.string ⟨#[34, 92]⟩, .int .i32 ((s[j]'hp).toNat : Int)] Y fun e w' => e = .returned (.bool true) ∧ w' = Y) := fun Y => by
         have := hasLow 34 (s[j]'hp) ha Y
         rwa [decide_eq_true hc] at this
        have hI := qh9 (HI2.out.inv.mark hjl hc)
        clear hc ha
        go_wp2_with fail
        with_reducible refine (C.out _).mono ?_
        rintro e w1 ⟨rfl, rfl⟩
        clear c0 C
        have h1 : (0 : Int) ≤ (d : Int) := by omega
        have h2 : (d : Int) ≤ (j : Int) := by have := hij.out; omega
        have h3 : (j : Int) ≤ (s.size : Int) := by omega
        have HO := qh9 HI2.out.own
        have hsz0 : (s.extract d j).size ≤ s.size := by rw [ByteArray.size_extract]; omega
        have HZ := qh9 hsz0
        clear hsz0
        go_wp2_with (at_builtin; refine appStr5 rfl (.tmp 27) (.tmp 31) rfl rfl HO.out (s.extract d j) rfl (by have := HZ.out; have := hln.out; have := HS.out; have e : (LA s).length = s.size := rfl; omega) HSZ.out ?_)
        intro v1 x1 o1 k1
        have HO1 := qh9 o1
        have K1 := qh9 k1
        have hal := qh9 (below_al x1 (.cells #[.int .u8 92] 5))
        have hnw := qh9 (show (x1.alloc (.cells #[.int .u8 92] 5)).heap[x1.heap.size]? = some (.cells #[.int .u8 ((92 : UInt8).toNat : Int)] 5 (0, 0)) from heap_alloc_new x1 _)
        have hob := qh9 (o1.kept5 hal.out)
        have HL1 : Hid ((acc ++ LA (s.extract d j)).length ≤ 1000000000000) := by
         show _ ≤ _
         rw [List.length_append]
         have := HZ.out; have := hln.out; have := HS.out
         have e : (LA s).length = s.size := rfl
         have e2 : (LA (s.extract d j)).length = (s.extract d j).size := rfl
         omega
        have HS1 := qh9 (Nat.le_trans HSZ.out k1.bel.size)
        clear o1 k1
        go_wp2_with (at_builtin; refine appByte5 rfl (.tmp 33) (.tmp 34) rfl rfl hob.out 92 x1.heap.size 1 rfl hnw.out HL1.out (Nat.le_trans HS1.out hal.out.size) ?_)
        intro v2 x2 o2 k2
        have k3 : Kp5 w.heap.size w1 x2 := K1.out.trans ((Kp5.of hal.out HS1.out).trans k2)
        have o3 : OwnB x2 w.heap.size v2 (acc ++ ((LA s).drop d).take (j - d) ++ [92]) := by
         have e : LA (s.extract d j) = ((LA s).drop d).take (j - d) := la_ext s d j
         rw [← e, List.append_assoc]
         exact o2
        have HN := qh9 (HI2.out.app k3 o3 hI.out)
        clear k2 k3 o2 o3 hal hnw hob K1 HO1
        go_wp2
        go_roundw
        case rel => exact ⟨j + 1, j, _, v2, rfl, rfl, HN⟩
        case measure =>
         simp only [World.iterPos, HN.out.it, HI.out.it]
         omega
      · have C : Hid (∀ Y, Calls Tryz.prog 173 #[.string ⟨#[34, 92]⟩, .int .i32 ((s[j]'hp).toNat : Int)] Y fun e w' => e = .returned (.bool false) ∧ w' = Y) := fun Y => by
         have := hasLow 34 (s[j]'hp) ha Y
         rwa [decide_eq_false hc] at this
        have hI : EncI 34 (LA s) acc d (j + 1) := HI2.out.inv.plain 1 hjl (fun c hcm => by
         have e1 : (LA s).drop j = (LA s)[j] :: (LA s).drop (j + 1) := (List.getElem_cons_drop hjl).symm
         rw [e1] at hcm
         replace hcm : c ∈ [(LA s)[j]'hjl] := hcm
         have e2 : c = (LA s)[j]'hjl := List.mem_singleton.1 hcm
         rw [e2]
         exact not_or.1 hc)
        have HN : Hid (EncW w X s 34 (j + 1) (j + 1) d sl acc) := ⟨HI2.out.it, HI2.out.own, HI2.out.bel, hI⟩
        clear hc ha hI
        go_wp2_with fail
        with_reducible refine (C.out _).mono ?_
        rintro e w1 ⟨rfl, rfl⟩
        clear c0 C
        go_wp2
        go_roundw
        case rel => exact ⟨j + 1, d, acc, sl, rfl, rfl, HN⟩
        case measure =>
         simp only [World.iterPos, HN.out.it, HI.out.it]
         omega
    · have hhi := decode_high s j hp (by omega)
      have hle := decode_le s j
      have hrun := dec_high s j hp (by omega)
      have hnx := fun ty => Lib.run_next_any_at (P := Tryz.prog) wr (w.heap.size + 1) s j ty HI.out.it hp
      obtain ⟨D, hD⟩ : ∃ D, Utf8.decode s j = D := ⟨_, rfl⟩
      simp only [hD] at hhi hle hrun hnx
      obtain ⟨r, k⟩ := D
      simp only at hhi hle hrun hnx
      have HI2 := qh9 (HI.out.next (j + k))
      go_upto_region 7 with fail
      clear hnx
      generalize wr.iterAt (w.heap.size + 1) s (j + k) = X at HI2 ⊢
      have c0 : X.cell? ⟨0, 0, none⟩ = some (.string ⟨#[34, 92]⟩) := by rw [HI2.out.bel.cell (show 0 < w.heap.size from HG.out)]; exact HT.out
      have C := qh9 (fun Y => hasHigh 34 (by decide) (r : Int) (by omega) (by omega) Y)
      have hI : EncI 34 (LA s) acc d (j + k) := HI2.out.inv.plain k hrun.1 (high_seg s j k hrun.1 hrun.2 34 (by decide))
      have HN : Hid (EncW w X s 34 (j + k) (j + k) d sl acc) := ⟨HI2.out.it, HI2.out.own, HI2.out.bel, hI⟩
      have hk1 := qh9 hhi.2
      clear hhi hle hrun hI HI2 hD
      go_wp2_with fail
      with_reducible refine (C.out _).mono ?_
      rintro e w1 ⟨rfl, hb⟩
      replace HN := qh9 (HN.out.keep hb)
      clear c0 C hb
      go_wp2
      go_roundw
      case rel => exact ⟨j + k, d, acc, sl, rfl, rfl, HN⟩
      case measure =>
       simp only [World.iterPos, HN.out.it, HI.out.it]
       have := hk1.out
       omega
  · have hnx : ∀ ty, (Instr.next (.pointer (some ⟨w.heap.size + 1, 0, none⟩)) true ty).run Tryz.prog wr = _ := fun ty => Lib.run_next_end_at wr (w.heap.size + 1) s j ty HI.out.it hp
    have hij := HI.out.inv.1
    have hjl : j ≤ s.size := HI.out.inv.2.1
    obtain rfl : j = s.size := by omega
    have hfin : Hid (BA (acc ++ (LA (s.extract d s.size) ++ [34])) = BA (escL 34 (LA s))) := by
     show _ = _
     rw [show LA (s.extract d s.size) = (LA s).drop d from la_extract hij, ← List.append_assoc]
     exact congrArg BA (EncI.fin HI.out.inv)
    have h1 : (0 : Int) ≤ (d : Int) := by omega
    have h2 : (d : Int) ≤ (s.size : Int) := by omega
    have HO := qh9 HI.out.own
    have HSZ := qh9 HI.out.size
    have HB := qh9 HI.out.bel
    have hln := qh9 HI.out.inv.len
    have hsz0 : (s.extract d s.size).size ≤ s.size := by rw [ByteArray.size_extract]; omega
    have HZ := qh9 hsz0
    clear hsz0 hjl hij
    go_wp2_with (at_builtin; refine appStr5 rfl (.tmp 37) (.tmp 40) rfl rfl HO.out (s.extract d s.size) rfl (by have := HZ.out; have := hln.out; have := HS.out; have e : (LA s).length = s.size := rfl; omega) HSZ.out ?_)
    intro v1 x1 o1 k1
    have K1 := qh9 k1
    have hal := qh9 (below_al x1 (.cells #[.int .u8 34] 5))
    have hnw := qh9 (show (x1.alloc (.cells #[.int .u8 34] 5)).heap[x1.heap.size]? = some (.cells #[.int .u8 ((34 : UInt8).toNat : Int)] 5 (0, 0)) from heap_alloc_new x1 _)
    have hob := qh9 (o1.kept5 hal.out)
    have HL1 : Hid ((acc ++ LA (s.extract d s.size)).length ≤ 1000000000000) := by
     show _ ≤ _
     rw [List.length_append]
     have := HZ.out; have := hln.out; have := HS.out
     have e : (LA s).length = s.size := rfl
     have e2 : (LA (s.extract d s.size)).length = (s.extract d s.size).size := rfl
     omega
    have HS1 := qh9 (Nat.le_trans HSZ.out k1.bel.size)
    clear o1 k1 hnx
    go_wp2_with (at_builtin; refine appByte5 rfl (.tmp 42) (.tmp 44) rfl rfl hob.out 34 x1.heap.size 1 rfl hnw.out HL1.out (Nat.le_trans HS1.out hal.out.size) ?_)
    intro v2 x2 o2 k2
    have hcv := convOwn x2 w.heap.size v2 _ o2
    have HB2 := qh9 (HB.out.trans (K1.out.bel.trans ((Kp5.of hal.out HS1.out).trans k2).bel))
    clear o2 k2 hal hnw hob
    go_wp2
    go_ret
    exact ⟨congrArg (fun x => Ending.returned (.string x)) hfin.out, HB2.out⟩
theorem enclose1 (s : ByteArray) (w : World) (hT : w.cell? ⟨0, 1, none⟩ = some (.string ⟨#[124, 92]⟩)) (hs : s.size ≤ 100000000) :
 Calls Tryz.prog 124 #[.int .i64 1, .string s] w (RetTU w (BA (escL 124 (LA s)))) := by
 have hgl : 0 < w.heap.size := World.block_lt_of_cell? w _ hT
 have HG := qh9 hgl
 have HT := qh9 hT
 have HS := qh9 hs
 clear hgl hs
 go_enter Tryz.func124, Tryz.ntmps124
 go_wp2
 clear hT
 go_loopw [6, 7] (fun v u wr => ∃ (j d : Nat) (acc : List UInt8) (sl : Value), sl = v ∧ u = .int .i64 (d : Int) ∧ Hid (EncW w wr s 124 j j d sl acc)) (fun _ _ wr => s.size - wr.iterPos (w.heap.size + 1))
 case atStart =>
  refine ⟨0, 0, [124], _, rfl, rfl, ?_, ?_, ?_, EncI.start _ _⟩
  · have h := World.iter_heap (w.alloc (.cells #[.int .u8 124] 5)) s 0
    have e : (w.alloc (.cells #[.int .u8 124] 5)).heap.size = w.heap.size + 1 := by simp
    rw [e] at h
    exact h
  · exact OwnB.alloc_ (OwnB.of_cells (World.ownsRow_lit w #[.int .u8 124] 1 (Nat.le_refl _) (by decide) rfl)) _
  · exact ((Below.refl _ w).alloc (Nat.le_refl _) _).alloc (by simp) _
 case round =>
  obtain ⟨j, d, acc, sl, rfl, rfl, HI⟩ := hrel
  by_cases hp : j < s.size
  · by_cases ha : (s[j]'hp).toNat < 128
    · have hnx : ∀ ty, (Instr.next (.pointer (some ⟨w.heap.size + 1, 0, none⟩)) true ty).run Tryz.prog wr = _ := fun ty => Lib.run_next_ascii_at wr (w.heap.size + 1) s j ty HI.out.it hp ha
      have HI2 := qh9 (HI.out.next (j + 1))
      go_upto_region 7 with fail
      clear hnx
      generalize wr.iterAt (w.heap.size + 1) s (j + 1) = X at HI2 ⊢
      have HSZ := qh9 HI2.out.size
      have c0 : X.cell? ⟨0, 1, none⟩ = some (.string ⟨#[124, 92]⟩) := by rw [HI2.out.bel.cell (show 0 < w.heap.size from HG.out)]; exact HT.out
      have hjl : j < (LA s).length := hp
      have hij := qh9 HI2.out.inv.1
      have hln := qh9 HI2.out.inv.len
      by_cases hc : s[j]'hp = 124 ∨ s[j]'hp = 92
      · have C : Hid (∀ Y, Calls Tryz.prog 173 #[.string ⟨#[124, 92]⟩, .int .i32 ((s[j]'hp).toNat : Int)] Y fun e w' => e = .returned (.bool true) ∧ w' = Y) := fun Y => by
         have := hasLow 124 (s[j]'hp) ha Y
         rwa [decide_eq_true hc] at this
        have hI := qh9 (HI2.out.inv.mark hjl hc)
        clear hc ha
        go_wp2_with fail
        with_reducible refine (C.out _).mono ?_
        rintro e w1 ⟨rfl, rfl⟩
        clear c0 C
        have h1 : (0 : Int) ≤ (d : Int) := by omega
        have h2 : (d : Int) ≤ (j : Int) := by have := hij.out; omega
        have h3 : (j : Int) ≤ (s.size : Int) := by omega
        have HO := qh9 HI2.out.own
        have hsz0 : (s.extract d j).size ≤ s.size := by rw [ByteArray.size_extract]; omega
        have HZ := qh9 hsz0
        clear hsz0
        go_wp2_with (at_builtin; refine appStr5 rfl (.tmp 27) (.tmp 31) rfl rfl HO.out (s.extract d j) rfl (by have := HZ.out; have := hln.out; have := HS.out; have e : (LA s).length = s.size := rfl; omega) HSZ.out ?_)
        intro v1 x1 o1 k1
        have HO1 := qh9 o1
        have K1 := qh9 k1
        have hal := qh9 (below_al x1 (.cells #[.int .u8 92] 5))
        have hnw := qh9 (show (x1.alloc (.cells #[.int .u8 92] 5)).heap[x1.heap.size]? = some (.cells #[.int .u8 ((92 : UInt8).toNat : Int)] 5 (0, 0)) from heap_alloc_new x1 _)
        have hob := qh9 (o1.kept5 hal.out)
        have HL1 : Hid ((acc ++ LA (s.extract d j)).length ≤ 1000000000000) := by
         show _ ≤ _
         rw [List.length_append]
         have := HZ.out; have := hln.out; have := HS.out
         have e : (LA s).length = s.size := rfl
         have e2 : (LA (s.extract d j)).length = (s.extract d j).size := rfl
         omega
        have HS1 := qh9 (Nat.le_trans HSZ.out k1.bel.size)
        clear o1 k1
        go_wp2_with (at_builtin; refine appByte5 rfl (.tmp 33) (.tmp 34) rfl rfl hob.out 92 x1.heap.size 1 rfl hnw.out HL1.out (Nat.le_trans HS1.out hal.out.size) ?_)
        intro v2 x2 o2 k2
        have k3 : Kp5 w.heap.size w1 x2 := K1.out.trans ((Kp5.of hal.out HS1.out).trans k2)
        have o3 : OwnB x2 w.heap.size v2 (acc ++ ((LA s).drop d).take (j - d) ++ [92]) := by
         have e : LA (s.extract d j) = ((LA s).drop d).take (j - d) := la_ext s d j
         rw [← e, List.append_assoc]
         exact o2
        have HN := qh9 (HI2.out.app k3 o3 hI.out)
        clear k2 k3 o2 o3 hal hnw hob K1 HO1
        go_wp2
        go_roundw
        case rel => exact ⟨j + 1, j, _, v2, rfl, rfl, HN⟩
        case measure =>
         simp only [World.iterPos, HN.out.it, HI.out.it]
         omega
      · have C : Hid (∀ Y, Calls Tryz.prog 173 #[.string ⟨#[124, 92]⟩, .int .i32 ((s[j]'hp).toNat : Int)] Y fun e w' => e = .returned (.bool false) ∧ w' = Y) := fun Y => by
         have := hasLow 124 (s[j]'hp) ha Y
         rwa [decide_eq_false hc] at this
        have hI : EncI 124 (LA s) acc d (j + 1) := HI2.out.inv.plain 1 hjl (fun c hcm => by
         have e1 : (LA s).drop j = (LA s)[j] :: (LA s).drop (j + 1) := (List.getElem_cons_drop hjl).symm
         rw [e1] at hcm
         replace hcm : c ∈ [(LA s)[j]'hjl] := hcm
         have e2 : c = (LA s)[j]'hjl := List.mem_singleton.1 hcm
         rw [e2]
         exact not_or.1 hc)
        have HN : Hid (EncW w X s 124 (j + 1) (j + 1) d sl acc) := ⟨HI2.out.it, HI2.out.own, HI2.out.bel, hI⟩
        clear hc ha hI
        go_wp2_with fail
        with_reducible refine (C.out _).mono ?_
        rintro e w1 ⟨rfl, rfl⟩
        clear c0 C
        go_wp2
        go_roundw
        case rel => exact ⟨j + 1, d, acc, sl, rfl, rfl, HN⟩
        case measure =>
         simp only [World.iterPos, HN.out.it, HI.out.it]
         omega
    · have hhi := decode_high s j hp (by omega)
      have hle := decode_le s j
      have hrun := dec_high s j hp (by omega)
      have hnx := fun ty => Lib.run_next_any_at (P := Tryz.prog) wr (w.heap.size + 1) s j ty HI.out.it hp
      obtain ⟨D, hD⟩ : ∃ D, Utf8.decode s j = D := ⟨_, rfl⟩
      simp only [hD] at hhi hle hrun hnx
      obtain ⟨r, k⟩ := D
      simp only at hhi hle hrun hnx
      have HI2 := qh9 (HI.out.next (j + k))
      go_upto_region 7 with fail
      clear hnx
      generalize wr.iterAt (w.heap.size + 1) s (j + k) = X at HI2 ⊢
      have c0 : X.cell? ⟨0, 1, none⟩ = some (.string ⟨#[124, 92]⟩) := by rw [HI2.out.bel.cell (show 0 < w.heap.size from HG.out)]; exact HT.out
      have C := qh9 (fun Y => hasHigh 124 (by decide) (r : Int) (by omega) (by omega) Y)
      have hI : EncI 124 (LA s) acc d (j + k) := HI2.out.inv.plain k hrun.1 (high_seg s j k hrun.1 hrun.2 124 (by decide))
      have HN : Hid (EncW w X s 124 (j + k) (j + k) d sl acc) := ⟨HI2.out.it, HI2.out.own, HI2.out.bel, hI⟩
      have hk1 := qh9 hhi.2
      clear hhi hle hrun hI HI2 hD
      go_wp2_with fail
      with_reducible refine (C.out _).mono ?_
      rintro e w1 ⟨rfl, hb⟩
      replace HN := qh9 (HN.out.keep hb)
      clear c0 C hb
      go_wp2
      go_roundw
      case rel => exact ⟨j + k, d, acc, sl, rfl, rfl, HN⟩
      case measure =>
       simp only [World.iterPos, HN.out.it, HI.out.it]
       have := hk1.out
       omega
  · have hnx : ∀ ty, (Instr.next (.pointer (some ⟨w.heap.size + 1, 0, none⟩)) true ty).run Tryz.prog wr = _ := fun ty => Lib.run_next_end_at wr (w.heap.size + 1) s j ty HI.out.it hp
    have hij := HI.out.inv.1
    have hjl : j ≤ s.size := HI.out.inv.2.1
    obtain rfl : j = s.size := by omega
    have hfin : Hid (BA (acc ++ (LA (s.extract d s.size) ++ [124])) = BA (escL 124 (LA s))) := by
     show _ = _
     rw [show LA (s.extract d s.size) = (LA s).drop d from la_extract hij, ← List.append_assoc]
     exact congrArg BA (EncI.fin HI.out.inv)
    have h1 : (0 : Int) ≤ (d : Int) := by omega
    have h2 : (d : Int) ≤ (s.size : Int) := by omega
    have HO := qh9 HI.out.own
    have HSZ := qh9 HI.out.size
    have HB := qh9 HI.out.bel
    have hln := qh9 HI.out.inv.len
    have hsz0 : (s.extract d s.size).size ≤ s.size := by rw [ByteArray.size_extract]; omega
    have HZ := qh9 hsz0
    clear hsz0 hjl hij
    go_wp2_with (at_builtin; refine appStr5 rfl (.tmp 37) (.tmp 40) rfl rfl HO.out (s.extract d s.size) rfl (by have := HZ.out; have := hln.out; have := HS.out; have e : (LA s).length = s.size := rfl; omega) HSZ.out ?_)
    intro v1 x1 o1 k1
    have K1 := qh9 k1
    have hal := qh9 (below_al x1 (.cells #[.int .u8 124] 5))
    have hnw := qh9 (show (x1.alloc (.cells #[.int .u8 124] 5)).heap[x1.heap.size]? = some (.cells #[.int .u8 ((124 : UInt8).toNat : Int)] 5 (0, 0)) from heap_alloc_new x1 _)
    have hob := qh9 (o1.kept5 hal.out)
    have HL1 : Hid ((acc ++ LA (s.extract d s.size)).length ≤ 1000000000000) := by
     show _ ≤ _
     rw [List.length_append]
     have := HZ.out; have := hln.out; have := HS.out
     have e : (LA s).length = s.size := rfl
     have e2 : (LA (s.extract d s.size)).length = (s.extract d s.size).size := rfl
     omega
    have HS1 := qh9 (Nat.le_trans HSZ.out k1.bel.size)
    clear o1 k1 hnx
    go_wp2_with (at_builtin; refine appByte5 rfl (.tmp 42) (.tmp 44) rfl rfl hob.out 124 x1.heap.size 1 rfl hnw.out HL1.out (Nat.le_trans HS1.out hal.out.size) ?_)
    intro v2 x2 o2 k2
    have hcv := convOwn x2 w.heap.size v2 _ o2
    have HB2 := qh9 (HB.out.trans (K1.out.bel.trans ((Kp5.of hal.out HS1.out).trans k2).bel))
    clear o2 k2 hal hnw hob
    go_wp2
    go_ret
    exact ⟨congrArg (fun x => Ending.returned (.string x)) hfin.out, HB2.out⟩
/-- The table of marks stands. -/
def EscT (w : World) : Prop := w.cell? ⟨0, 0, none⟩ = some (.string ⟨#[34, 92]⟩) ∧ w.cell? ⟨0, 1, none⟩ = some (.string ⟨#[124, 92]⟩)
theorem EscT.keep {w w' : World} (h : EscT w) (hb : Below w.heap.size w w') : EscT w' := by
 have hg : 0 < w.heap.size := World.block_lt_of_cell? w _ h.1
 exact ⟨by rw [hb.cell (show 0 < w.heap.size from hg)]; exact h.1, by rw [hb.cell (show 0 < w.heap.size from hg)]; exact h.2⟩
theorem LA_app (s t : ByteArray) : LA (s ++ t) = LA s ++ LA t := by
 show (s ++ t).data.toList = _
 rw [ByteArray.data_append, Array.toList_append]
 rfl
theorem scanS_small {s : ByteArray} (h : s.size ≤ 6000) : scanS s = toksL okP numP sizP s.size (LA s) := by
 unfold scanS
 rw [if_neg (by omega)]
 rfl
theorem emp_app (n : ByteArray) : (⟨#[]⟩ : ByteArray) ++ n = n := by
 apply ByteArray.ext
 rw [ByteArray.data_append]
 show #[] ++ n.data = n.data
 simp
theorem head_plain (n : ByteArray) (hn : Sy.nameOk n = true) : headSym (scanS (⟨#[]⟩ ++ n)) (LA n) = (simpleL (LA n) && !(LA n == [46] || (numL (LA n)).isSome)) := by
 obtain ⟨h1, h2⟩ := nameOk_facts (n := LA n) (by rw [BA_LA]; exact hn)
 have hz : n.size ≤ 40 := h2
 rw [emp_app, scanS_small (by omega)]
 exact isWord_plain okP numP sizP n.size (LA n) h1 h2
theorem head_qual (p n : ByteArray) (hp : Sy.pkgOk p = true) (hn : Sy.nameOk n = true) : headSym (scanS (p ++ ⟨#[58, 58]⟩ ++ n)) (LA n) = simpleL (LA n) := by
 obtain ⟨h1, h2⟩ := nameOk_facts (n := LA n) (by rw [BA_LA]; exact hn)
 obtain ⟨p1, p2, p3⟩ := pkgOk_facts (p := LA p) (by rw [BA_LA]; exact hp)
 have hz : n.size ≤ 40 := h2
 have hzp : p.size ≤ 40 := p3
 rw [scanS_small (by rw [ByteArray.size_append, ByteArray.size_append]; show p.size + 2 + n.size ≤ 6000; omega), LA_app, LA_app, List.append_assoc]
 exact isWord_qual okP numP sizP _ (LA p) (LA n) p1 p2 (by unfold okP; rw [BA_LA]; exact hp) h1 h2
/-- The text of a symbol, as bytes. -/
theorem text_plain (n : ByteArray) : BA (wordS (LA n) false) = if (simpleL (LA n) && !(LA n == [46] || (numL (LA n)).isSome)) = true then ⟨#[]⟩ ++ n else ⟨#[]⟩ ++ BA (escL 124 (LA n)) := by
 unfold wordS
 rw [Bool.false_or]
 split
 · rw [emp_app, BA_LA]
 · rw [emp_app]
theorem BA_app3 (l m : List UInt8) : BA (l ++ m) = BA l ++ BA m := by
 apply ByteArray.ext
 rw [ByteArray.data_append]
 show (l ++ m).toArray = l.toArray ++ m.toArray
 simp
theorem text_qual (p n : ByteArray) : BA (LA p ++ 58 :: 58 :: wordS (LA n) true) = if simpleL (LA n) = true then p ++ ⟨#[58, 58]⟩ ++ n else p ++ ⟨#[58, 58]⟩ ++ BA (escL 124 (LA n)) := by
 have e : LA p ++ 58 :: 58 :: wordS (LA n) true = (LA p ++ [58, 58]) ++ wordS (LA n) true := by simp
 rw [e, BA_app3, BA_app3, BA_LA]
 unfold wordS
 rw [Bool.true_or, Bool.and_true]
 split
 · rw [BA_LA]; rfl
 · rfl
theorem nameTextP (l : List Sy.Pg) (v : Value) (cur p n : ByteArray) (w : World) (hv : Sy.PgV w l v) (hl : l.length ≤ 1000000) (hi : ∀ q ∈ l, q.2.length ≤ 1000000) (hok : Sy.symOk p n = true) (hT : EscT w) :
 Calls Tryz.prog 125 #[v, .string cur, .agg #[.string p, .string n]] w (RetTU w (BA (nmU l cur (LA p) (LA n)))) := by
 have hok' : Sy.pkgOk p = true ∧ Sy.nameOk n = true := by unfold Sy.symOk at hok; rw [Bool.and_eq_true] at hok; exact hok
 have hzn : n.size ≤ 40 := (nameOk_facts (n := LA n) (by rw [BA_LA]; exact hok'.2)).2
 have hzp : p.size ≤ 40 := (pkgOk_facts (p := LA p) (by rw [BA_LA]; exact hok'.1)).2.2
 have CV : Hid (∀ X, Below w.heap.size w X → Calls Tryz.prog 174 #[v, .string cur, .agg #[.string p, .string n]] X (RetB X (Sy.visM l cur (p, n)))) := fun X h => Sy.visibleY l v cur p n X (hv.keep h) hl hi
 have hp1 := head_plain n hok'.2
 have hp2 := head_qual p n hok'.1 hok'.2
 have W1 : Hid (∀ X, Calls Tryz.prog 175 #[.string ⟨#[]⟩, .string n] X (RetB X (headSym (scanS (⟨#[]⟩ ++ n)) (LA n)))) := fun X => isWordP _ _ X (by show 0 + n.size ≤ 1000; omega)
 have W2 : Hid (∀ X, Calls Tryz.prog 175 #[.string (p ++ ⟨#[58, 58]⟩), .string n] X (RetB X (headSym (scanS (p ++ ⟨#[58, 58]⟩ ++ n)) (LA n)))) := fun X => isWordP _ _ X (by rw [ByteArray.size_append]; show p.size + 2 + n.size ≤ 1000; omega)
 rw [hp1] at W1
 rw [hp2] at W2
 have HE : Hid (∀ X, Below w.heap.size w X → Calls Tryz.prog 124 #[.int .i64 1, .string n] X (RetTU X (BA (escL 124 (LA n))))) := fun X h => enclose1 n X (hT.keep h).2 (by omega)
 have t1 := text_plain n
 have t2 := text_qual p n
 unfold nmU
 rw [show (BA (LA p), BA (LA n)) = (p, n) by rw [BA_LA, BA_LA]]
 generalize Sy.visM l cur (p, n) = vis at CV ⊢
 generalize (simpleL (LA n) && !(LA n == [46] || (numL (LA n)).isSome)) = b1 at W1 t1
 generalize simpleL (LA n) = b2 at W2 t2
 have z3 : ∀ k, (BA (escL 124 (LA n))).size ≤ 200 + 0 * k := fun k => by
  rw [BA_size]
  have := escL_len 124 (LA n)
  have e : (LA n).length = n.size := rfl
  omega
 have z4 := z3 0
 obtain ⟨T, hTT⟩ : ∃ T, BA (if vis = true then wordS (LA n) false else LA p ++ 58 :: 58 :: wordS (LA n) true) = T := ⟨_, rfl⟩
 rw [hTT]
 have HTT := qh9 hTT
 have T1 := qh9 t1
 have T2 := qh9 t2
 clear hTT t1 t2
 clear hp1 hp2 hT hv hok hok' z3
 have S0 := Sy.SB.new w (.string p) (.string n)
 have hb0 := below_al w (.cells #[.string p, .string n] 24)
 go_enter Tryz.func125, Tryz.ntmps125
 go_upto_region 1 with fail
 generalize w.alloc (.cells #[.string p, .string n] 24) = W at S0 hb0 ⊢
 have HW := qh9 hb0
 have BS := qh9 S0
 clear S0 hb0
 obtain ⟨s0, s1⟩ := And.intro BS.out.c0 (Sy.SB.c1 BS.out)
 go_wp2_with fail
 clear s0 s1
 with_reducible refine (CV.out _ HW.out).mono ?_
 rintro e w1 ⟨rfl, hb⟩
 replace HW := qc9 HW hb
 replace BS := qh9 (BS.out.keep hb)
 clear hb
 clear CV
 cases vis with
 | true =>
  obtain ⟨s0, s1⟩ := And.intro BS.out.c0 (Sy.SB.c1 BS.out)
  go_wp2_with fail
  clear s0 s1
  with_reducible refine (W1.out _).mono ?_
  rintro e w2 ⟨rfl, hb⟩
  replace HW := qc9 HW hb
  replace BS := qh9 (BS.out.keep hb)
  clear hb
  cases b1 with
  | true =>
   have hx : T = _ := HTT.out.symm.trans (T1.out.trans (if_pos rfl))
   clear HTT T1 T2
   subst hx
   obtain ⟨s0, s1⟩ := And.intro BS.out.c0 (Sy.SB.c1 BS.out)
   go_wp2_with fail
   clear s0 s1
   go_ret
   exact ⟨rfl, HW.out⟩
  | false =>
   have hx : T = _ := HTT.out.symm.trans (T1.out.trans (if_neg (by decide)))
   clear HTT T1 T2
   subst hx
   obtain ⟨s0, s1⟩ := And.intro BS.out.c0 (Sy.SB.c1 BS.out)
   go_wp2_with fail
   clear s0 s1
   with_reducible refine (HE.out _ HW.out).mono ?_
   rintro e w3 ⟨rfl, hb⟩
   replace HW := qc9 HW hb
   replace BS := qh9 (BS.out.keep hb)
   clear hb
   go_wp2
   go_ret
   exact ⟨rfl, HW.out⟩
 | false =>
  obtain ⟨s0, s1⟩ := And.intro BS.out.c0 (Sy.SB.c1 BS.out)
  go_wp2_with fail
  clear s0 s1
  with_reducible refine (W2.out _).mono ?_
  rintro e w2 ⟨rfl, hb⟩
  replace HW := qc9 HW hb
  replace BS := qh9 (BS.out.keep hb)
  clear hb
  cases b2 with
  | true =>
   have hx : T = _ := HTT.out.symm.trans (T2.out.trans (if_pos rfl))
   clear HTT T1 T2
   subst hx
   obtain ⟨s0, s1⟩ := And.intro BS.out.c0 (Sy.SB.c1 BS.out)
   go_wp2_with fail
   clear s0 s1
   go_ret
   exact ⟨rfl, HW.out⟩
  | false =>
   have hx : T = _ := HTT.out.symm.trans (T2.out.trans (if_neg (by decide)))
   clear HTT T1 T2
   subst hx
   obtain ⟨s0, s1⟩ := And.intro BS.out.c0 (Sy.SB.c1 BS.out)
   go_wp2_with fail
   clear s0 s1
   with_reducible refine (HE.out _ HW.out).mono ?_
   rintro e w3 ⟨rfl, hb⟩
   replace HW := qc9 HW hb
   replace BS := qh9 (BS.out.keep hb)
   clear hb
   go_wp2
   go_ret
   exact ⟨rfl, HW.out⟩



/-- The object o lies at ⟨b, k⟩. -/
def AdU (w : World) (o : Ob) (b k : Nat) (p : Value) : Prop := At w (Has w) o b k p
theorem AdU.below {w w' : World} {o : Ob} {b k : Nat} {p : Value} (h : AdU w o b k p) (hb : Below w.heap.size w w') : AdU w' o b k p :=
 (At.below h (In.has w) hb).more fun b hb' => Nat.lt_of_lt_of_le hb' hb.size
theorem AdU.hd {w : World} {o : Ob} {b k : Nat} {p : Value} (h : AdU w o b k p) : Hd w o p := h.2.2
theorem Hd.consU {w : World} {a d : Ob} {p : Value} (h : Hd w (.cons a d) p) : ∃ b o c pa pd, p = .slice (some ⟨b, o, none⟩) 2 c ∧ 2 ≤ c ∧ AdU w a b o pa ∧ AdU w d b (o + 7) pd := Pair.parts h
theorem loadAU {ops : Array Oper} {rest : List Oper} {o : Oper} {a : Act} {w : World} {Q : Exit → Act → World → Prop} {g k : Nat} {b : Ob} {p : Value} (ho : ∃ x, o.op = .load 27 x ∧ a.eval x = .pointer (some ⟨g, k, none⟩)) (hgd : o.guard = none)
 (hb : AdU w b g k p)
 (h : wpList Tryz.prog ops Q rest (a.put o.dst (vO b p)) w) : wpList Tryz.prog ops Q (o :: rest) a w := by
 obtain ⟨x, ho, hx⟩ := ho
 exact wpList_load_mid hgd 27 x ho g k hx (cellsO b p) _ hb.2.1 Tryz.underlying27 rfl (by rw [cellsO_length]; kernel_rfl) h
theorem loadAGU {ops : Array Oper} {rest : List Oper} {o : Oper} {a : Act} {w : World} {Q : Exit → Act → World → Prop} {g k : Nat} {b : Ob} {p : Value} (ho : ∃ x, o.op = .load 27 x ∧ a.eval x = .pointer (some ⟨g, k, none⟩)) (hw : Region.wanted o (yielded ops a.tmps) = true)
 (hb : AdU w b g k p)
 (h : wpList Tryz.prog ops Q rest (a.put o.dst (vO b p)) w) : wpList Tryz.prog ops Q (o :: rest) a w := by
 obtain ⟨x, ho, hx⟩ := ho
 unfold wpList
 rw [if_pos hw]
 exact .inl (wp_load_mid 27 x ho g k hx (cellsO b p) _ hb.2.1 Tryz.underlying27 rfl (by rw [cellsO_length]; kernel_rfl) h)
/-- The text of a number, as strings. -/
theorem numS_bytes (q : Rat) : BA (numS q) = if q.den = 1 then nt q else nt q ++ ⟨#[47]⟩ ++ dt q := by
 unfold numS
 split
 · rfl
 · have e : text q.num ++ 47 :: magText q.den = (text q.num ++ [47]) ++ magText q.den := by simp
   have e2 : magText q.den = text (q.den : Int) := by
    rcases text_cases (q.den : Int) with ⟨_, h⟩ | ⟨h, _⟩
    · rw [h, Int.natAbs_natCast]
    · omega
   rw [e, BA_app3, BA_app3, e2]
   rfl
theorem numberTextP (q : Rat) (p : Value) (w : World) (hb : Bd 900 q) :
 Calls Tryz.prog 123 #[vO (.num q) p] w (RetTU w (BA (numS q))) := by
 have C : Hid (∀ X, Calls Tryz.prog 172 #[vO (.num q) p] X (RetB X (decide (q.den = 1)))) := fun X => isIntegerP (.num q) p X
 have z1 := bd_nt hb
 have z2 := bd_dt hb
 rw [numS_bytes]
 have ea : cellsO (.num q) p = [.int .i64 1, .string (nt q), .string (dt q), .string ⟨#[]⟩, .string ⟨#[]⟩, .string ⟨#[]⟩, p] := rfl
 have T := Bx1.new w #[.int .i64 1, .string (nt q), .string (dt q), .string ⟨#[]⟩, .string ⟨#[]⟩, .string ⟨#[]⟩, p]
 rw [vO_cells ea]
 generalize nt q = x at *
 generalize dt q = y at *
 by_cases hq : q.den = 1
 all_goals
  first | rw [if_pos hq] | rw [if_neg hq]
  first | rw [decide_eq_true hq] at C | rw [decide_eq_false hq] at C
  clear hq hb
  go_enter Tryz.func123, Tryz.ntmps123
  go_upto_region 1 with fail
  generalize w.alloc (.cells #[.int .i64 1, .string x, .string y, .string ⟨#[]⟩, .string ⟨#[]⟩, .string ⟨#[]⟩, p] 27) = W at T ⊢
  have B0 : Hid (Bx W (w.heap.size) (cellsO (.num q) p).toArray) := by rw [ea]; exact T.b0
  have B1 := qh9 T.b0
  have HW := qh9 T.bel
  rw [vO_cells ea] at C
  clear T
  obtain ⟨m0, m1, m2, m3, m4, m5, m6⟩ := Bx.c B1.out
  go_wp2_with fail
  with_reducible refine (C.out _).mono ?_
  rintro e w1 ⟨rfl, hb⟩
  replace B1 := qh9 (B1.out.keep hb)
  replace HW := qc9 HW hb
  clear hb m0 m1 m2 m3 m4 m5 m6
  obtain ⟨m0, m1, m2, m3, m4, m5, m6⟩ := Bx.c B1.out
  go_wp2
  go_ret
  exact ⟨rfl, HW.out⟩
/-- All symbols of an object are at home. -/
def homeO (l : List Sy.Pg) : Ob → Bool
 | .sym p n => Sy.homeM l (BA p, BA n)
 | .cons a d => homeO l a && homeO l d
 | _ => true
theorem homeSym (l : List Sy.Pg) (v : Value) (x y : List UInt8) (p : Value) (w : World) (hv : Sy.PgV w l v) (hl : l.length ≤ 1000000) (hi : ∀ q ∈ l, q.2.length ≤ 1000000) :
 Calls Tryz.prog 120 #[v, vO (.sym x y) p] w (RetB w (Sy.homeM l (BA x, BA y))) := by
 have C : Hid (∀ X, Below w.heap.size w X → Calls Tryz.prog 170 #[v, .agg #[.string (BA x), .string (BA y)]] X (RetB X (Sy.homeM l (BA x, BA y)))) := fun X h => Sy.homeY l v (BA x) (BA y) X (hv.keep h) hl hi
 generalize Sy.homeM l (BA x, BA y) = r at C ⊢
 have ea : cellsO (.sym x y) p = [.int .i64 2, .string ⟨#[]⟩, .string ⟨#[]⟩, .string (BA x), .string (BA y), .string ⟨#[]⟩, p] := rfl
 have T := Bx1.new w #[.int .i64 2, .string ⟨#[]⟩, .string ⟨#[]⟩, .string (BA x), .string (BA y), .string ⟨#[]⟩, p]
 rw [vO_cells ea]
 clear hv hl hi
 go_enter Tryz.func120, Tryz.ntmps120
 go_upto_region 1 with fail
 generalize w.alloc (.cells #[.int .i64 2, .string ⟨#[]⟩, .string ⟨#[]⟩, .string (BA x), .string (BA y), .string ⟨#[]⟩, p] 27) = W at T ⊢
 have HW := qh9 T.bel
 obtain ⟨m0, m1, m2, m3, m4, m5, m6⟩ := Bx.c T.b0
 clear T ea
 go_wp2_with fail
 with_reducible refine (C.out _ HW.out).mono ?_
 rintro e w1 ⟨rfl, hb⟩
 go_wp2
 go_ret
 exact ⟨rfl, chain2 HW.out hb (Nat.le_refl _)⟩
theorem homeFlat (v : Value) (k : Int) (hk2 : (k == 2) = false) (hk4 : (k == 4) = false) (a1 a2 a3 a4 a5 a6 : Value) (w : World) :
 Calls Tryz.prog 120 #[v, .agg #[.int .i64 k, a1, a2, a3, a4, a5, a6]] w (RetB w true) := by
 have T := Bx1.new w #[.int .i64 k, a1, a2, a3, a4, a5, a6]
 go_enter Tryz.func120, Tryz.ntmps120
 go_upto_region 1 with fail
 generalize w.alloc (.cells #[.int .i64 k, a1, a2, a3, a4, a5, a6] 27) = W at T ⊢
 have HW := qh9 T.bel
 obtain ⟨m0, m1, m2, m3, m4, m5, m6⟩ := Bx.c T.b0
 clear T
 go_wp2
 go_ret
 exact ⟨rfl, HW.out⟩
theorem homeCons (l : List Sy.Pg) (v : Value) (a d : Ob) (x y : Bool) (p : Value) (w : World) (hv : Sy.PgV w l v) (hp : Hd w (.cons a d) p)
 (ca : ∀ X q, Sy.PgV X l v → Hd X a q → Calls Tryz.prog 120 #[v, vO a q] X (RetB X x)) (cd : ∀ X q, Sy.PgV X l v → Hd X d q → Calls Tryz.prog 120 #[v, vO d q] X (RetB X y)) :
 Calls Tryz.prog 120 #[v, vO (.cons a d) p] w (RetB w (x && y)) := by
 obtain ⟨b1, o1, n1, pa, pd, rfl, hn1, hA, hD⟩ := hp.consU
 have CA := qh9 ca
 have CD := qh9 cd
 have HV := qh9 hv
 clear ca cd hv
 have HA := qh9 hA
 have HD := qh9 hD
 clear hA hD
 have ea : cellsO (.cons a d) (.slice (some ⟨b1, o1, none⟩) 2 n1) = [.int .i64 4, .string ⟨#[]⟩, .string ⟨#[]⟩, .string ⟨#[]⟩, .string ⟨#[]⟩, .string ⟨#[]⟩, (.slice (some ⟨b1, o1, none⟩) 2 n1)] := rfl
 have T := Bx1.new w #[.int .i64 4, .string ⟨#[]⟩, .string ⟨#[]⟩, .string ⟨#[]⟩, .string ⟨#[]⟩, .string ⟨#[]⟩, (.slice (some ⟨b1, o1, none⟩) 2 n1)]
 rw [vO_cells ea]
 go_enter Tryz.func120, Tryz.ntmps120
 go_upto_region 1 with fail
 generalize w.alloc (.cells #[.int .i64 4, .string ⟨#[]⟩, .string ⟨#[]⟩, .string ⟨#[]⟩, .string ⟨#[]⟩, .string ⟨#[]⟩, (.slice (some ⟨b1, o1, none⟩) 2 n1)] 27) = W at T ⊢
 have B0 := qh9 T.b0
 have HW := qh9 T.bel
 clear T ea hp
 replace HA := qh9 (HA.out.below HW.out)
 replace HD := qh9 (HD.out.below HW.out)
 replace HV := qh9 (HV.out.keep HW.out)
 obtain ⟨m0, _, _, _, _, _, m6⟩ := Bx.c B0.out
 go_wp2_with ((with_reducible refine loadAU ?_ ?_ HA.out ?_); exact ⟨_, rfl, rfl⟩; rfl)
 with_reducible refine (CA.out _ _ HV.out HA.out.hd).mono ?_
 rintro e w1 ⟨rfl, hb⟩
 replace B0 := qh9 (B0.out.keep hb)
 replace HW := qc9 HW hb
 replace HD := qh9 (HD.out.below hb)
 replace HV := qh9 (HV.out.keep hb)
 clear hb m0 m6
 obtain ⟨m0, _, _, _, _, _, m6⟩ := Bx.c B0.out
 cases x with
 | true =>
  go_wp2_with (first | ((with_reducible refine loadAU ?_ ?_ HD.out ?_); exact ⟨_, rfl, rfl⟩; rfl) | ((with_reducible refine loadAGU ?_ ?_ HD.out ?_); exact ⟨_, rfl, rfl⟩; rfl))
  with_reducible refine (CD.out _ _ HV.out HD.out.hd).mono ?_
  rintro e w2 ⟨rfl, hb⟩
  replace HW := qc9 HW hb
  go_wp2
  go_ret
  exact ⟨rfl, HW.out⟩
 | false =>
  go_wp2
  go_ret
  exact ⟨rfl, HW.out⟩
theorem isHomeP (l : List Sy.Pg) (v : Value) (hl : l.length ≤ 1000000) (hi : ∀ q ∈ l, q.2.length ≤ 1000000) : ∀ (o : Ob) (p : Value) (w : World), Sy.PgV w l v → Hd w o p → Calls Tryz.prog 120 #[v, vO o p] w (RetB w (homeO l o))
 | .num q, p, w, hv, h => homeFlat v 1 rfl rfl _ _ _ _ _ _ w
 | .str s, p, w, hv, h => homeFlat v 3 rfl rfl _ _ _ _ _ _ w
 | .sym x y, p, w, hv, h => homeSym l v x y p w hv hl hi
 | .cons a d, p, w, hv, h => homeCons l v a d _ _ p w hv h (fun X q hx hq => isHomeP l v hl hi a q X hx hq) (fun X q hx hq => isHomeP l v hl hi d q X hx hq)
/-- What checkObject returns. -/
def chkV (l : List Sy.Pg) (cur : ByteArray) (o : Ob) (b : Bool) : Int := if b = true then (if ((Sy.findM l cur).isSome && homeO l o) = true then 0 else 13) else 1
theorem checkObjectP (l : List Sy.Pg) (v : Value) (cur : ByteArray) (o : Ob) (p : Value) (b : Bool) (w : World) (hv : Sy.PgV w l v) (hl : l.length ≤ 1000000) (hi : ∀ q ∈ l, q.2.length ≤ 1000000) (h : Hd w o p)
 (hV : ∀ X, Below w.heap.size w X → Calls Tryz.prog 118 #[vO o p] X (RetB X b)) :
 Calls Tryz.prog 71 #[v, .string cur, vO o p] w (RetI w (chkV l cur o b)) := by
 have CV := qh9 hV
 have CX : Hid (∀ X, Below w.heap.size w X → Calls Tryz.prog 119 #[v, .string cur] X (RetB X (Sy.findM l cur).isSome)) := fun X hb => existsP l v cur X (hv.keep hb) hl
 have CH : Hid (∀ X, Below w.heap.size w X → Calls Tryz.prog 120 #[v, vO o p] X (RetB X (homeO l o))) := fun X hb => isHomeP l v hl hi o p X (hv.keep hb) (h.below hb)
 unfold chkV
 generalize (Sy.findM l cur).isSome = b2 at CX ⊢
 generalize homeO l o = b3 at CH ⊢
 obtain ⟨R, hR⟩ : ∃ R : Int, (if b = true then (if (b2 && b3) = true then 0 else 13) else 1) = R := ⟨_, rfl⟩
 rw [hR]
 have HR := qh9 hR
 clear hR hV hv hl hi h
 obtain ⟨a0, a1, a2, a3, a4, a5, ea⟩ := cells7 o p
 have T := Bx1.new w #[a0, a1, a2, a3, a4, a5, p]
 rw [vO_cells ea]
 go_enter Tryz.func71, Tryz.ntmps71
 go_upto_region 1 with fail
 generalize w.alloc (.cells #[a0, a1, a2, a3, a4, a5, p] 27) = W at T ⊢
 have B0 : Hid (Bx W (w.heap.size) (cellsO o p).toArray) := by rw [ea]; exact T.b0
 have HW := qh9 T.bel
 try rw [← vO_cells ea]
 clear T ea
 go_wp2_with (first | ((with_reducible refine loadB (.tmp 5) ?_ ?_ ?_ B0.out ?_); rfl; rfl; rfl) | ((with_reducible refine loadG (.tmp 5) ?_ ?_ ?_ B0.out ?_); rfl; rfl; rfl))
 with_reducible refine (CV.out _ HW.out).mono ?_
 rintro e w1 ⟨rfl, hb⟩
 replace B0 := qh9 (B0.out.keep hb)
 replace HW := qc9 HW hb
 clear hb CV
 cases b with
 | false =>
  obtain rfl := HR.out
  clear HR
  go_wp2
  go_ret
  exact ⟨rfl, HW.out⟩
 | true =>
  go_wp2_with fail
  with_reducible refine (CX.out _ HW.out).mono ?_
  rintro e w2 ⟨rfl, hb⟩
  replace B0 := qh9 (B0.out.keep hb)
  replace HW := qc9 HW hb
  clear hb CX
  cases b2 with
  | false =>
   obtain rfl := HR.out
   clear HR
   go_wp2
   go_ret
   exact ⟨rfl, HW.out⟩
  | true =>
   go_wp2_with (first | ((with_reducible refine loadB (.tmp 5) ?_ ?_ ?_ B0.out ?_); rfl; rfl; rfl) | ((with_reducible refine loadG (.tmp 5) ?_ ?_ ?_ B0.out ?_); rfl; rfl; rfl))
   with_reducible refine (CH.out _ HW.out).mono ?_
   rintro e w3 ⟨rfl, hb⟩
   replace HW := qc9 HW hb
   clear hb CH
   cases b3 with
   | false =>
    obtain rfl := HR.out
    clear HR
    go_wp2
    go_ret
    exact ⟨rfl, HW.out⟩
   | true =>
    obtain rfl := HR.out
    clear HR
    go_wp2
    go_ret
    exact ⟨rfl, HW.out⟩
/-- What was there before stands: all below B, and every block but g that is no row of bytes. -/
structure KpG (B g : Nat) (w w' : World) : Prop where
 bel : Below B w w'
 keep : ∀ k, k < w.heap.size → k ≠ g → (∀ cur fr, w.heap[k]? ≠ some (.cells cur 5 fr)) → w'.heap[k]? = w.heap[k]?
theorem KpG.refl (B g : Nat) (w : World) : KpG B g w w := ⟨Below.refl _ _, fun _ _ _ _ => rfl⟩
theorem KpG.trans {B g : Nat} {a b c : World} (h : KpG B g a b) (h' : KpG B g b c) : KpG B g a c :=
 ⟨h.bel.trans h'.bel, fun k hk hg hn => by
  have e := h.keep k hk hg hn
  exact (h'.keep k (Nat.lt_of_lt_of_le hk h.bel.size) hg (fun cur fr he => hn cur fr (e ▸ he))).trans e⟩
theorem KpG.of {B g : Nat} {a b : World} (h : Below a.heap.size a b) (hB : B ≤ a.heap.size) : KpG B g a b := ⟨h.mono hB, fun k hk _ _ => h.block k hk⟩
theorem KpG.five {B g : Nat} {a b : World} (h : Kp5 (g + 1) a b) (hB : B ≤ g) : KpG B g a b := ⟨h.bel.mono (by omega), fun k hk _ hn => h.keep k hk hn⟩
theorem KpG.set {B g : Nat} (w : World) (i : Nat) (u : Value) (hB : B ≤ g) : KpG B g w (w.setCell ⟨g, i, none⟩ u) :=
 ⟨(Below.refl B w).setCell (p := ⟨g, i, none⟩) hB u, fun k _ hk _ => Below.heap_setCell w ⟨g, i, none⟩ u k hk⟩
/-- The printing at block g: its packages, its package, its builder, which holds these bytes. -/
structure PrW (w : World) (B g : Nat) (lv : Value) (cur : ByteArray) (bp bv : Value) (acc : List UInt8) : Prop where
 hB : B ≤ g
 blk : w.heap[g]? = some (.cells #[lv, .string cur, bp, bv] 104 (0, 0))
 ptr : bp = .pointer none ∨ bp = .pointer (some ⟨g, 2, none⟩)
 own : OwnB w (g + 1) bv acc
section
variable {w w' : World} {B g : Nat} {lv : Value} {cur : ByteArray} {bp bv : Value} {acc : List UInt8}
theorem PrW.lt (h : PrW w B g lv cur bp bv acc) : g < w.heap.size := Sy.blk_ltY h.blk
theorem PrW.c0 (h : PrW w B g lv cur bp bv acc) : w.cell? ⟨g, 0, none⟩ = some lv := by rw [cell_of_row _ _ _ _ _ _ h.blk]; rfl
theorem PrW.c1 (h : PrW w B g lv cur bp bv acc) : w.cell? ⟨g, 1, none⟩ = some (.string cur) := by rw [cell_of_row _ _ _ _ _ _ h.blk]; rfl
theorem PrW.c2 (h : PrW w B g lv cur bp bv acc) : w.cell? ⟨g, 2, none⟩ = some bp := by rw [cell_of_row _ _ _ _ _ _ h.blk]; rfl
theorem PrW.c3 (h : PrW w B g lv cur bp bv acc) : w.cell? ⟨g, 3, none⟩ = some bv := by rw [cell_of_row _ _ _ _ _ _ h.blk]; rfl
theorem PrW.fr (h : PrW w B g lv cur bp bv acc) (i : Nat) : w.frozen? ⟨g, i, none⟩ = false := by
 have e := h.blk
 simp [World.frozen?, e]
theorem PrW.keep (h : PrW w B g lv cur bp bv acc) (hb : Below w.heap.size w w') : PrW w' B g lv cur bp bv acc :=
 ⟨h.hB, (hb.block g h.lt).trans h.blk, h.ptr, h.own.kept5 hb⟩
theorem PrW.set2 (h : PrW w B g lv cur bp bv acc) : PrW (w.setCell ⟨g, 2, none⟩ (.pointer (some ⟨g, 2, none⟩))) B g lv cur (.pointer (some ⟨g, 2, none⟩)) bv acc := by
 refine ⟨h.hB, ?_, .inr rfl, h.own.set5 (by omega) _ _⟩
 have e := h.blk
 simp [World.setCell, Array.getElem?_modify, e]
theorem PrW.five (h : PrW w B g lv cur bp bv acc) (hk : Kp5 (g + 1) w w') {v : Value} {l : List UInt8} (ho : OwnB w' (g + 1) v l) :
 w'.heap[g]? = some (.cells #[lv, .string cur, bp, bv] 104 (0, 0)) := (hk.bel.block g (by omega)).trans h.blk
end
theorem OwnB.shape {w : World} {B : Nat} {v : Value} {l : List UInt8} (h : OwnB w B v l) : ∃ A c, v = .slice A l.length c := by
 rcases h.2 with ⟨rfl, h0⟩ | ⟨g, cap, cur, rfl, _⟩
 · exact ⟨none, 0, by rw [h0]⟩
 · exact ⟨_, _, rfl⟩
theorem lenG (w : World) (B g : Nat) (lv : Value) (cur : ByteArray) (bp bv : Value) (acc : List UInt8) (h : PrW w B g lv cur bp bv acc) :
 Calls Tryz.prog 121 #[.pointer (some ⟨g, 2, none⟩)] w (fun e w' => e = .returned (.int .i64 (acc.length : Int)) ∧ w' = w) := by
 have c3 := h.c3
 obtain ⟨A, c, rfl⟩ := h.own.shape
 clear h
 go_enter Tryz.func121, Tryz.ntmps121
 go_wp2
 go_ret
 exact ⟨rfl, rfl⟩
theorem checkG (w : World) (B g : Nat) (lv : Value) (cur : ByteArray) (bp bv : Value) (acc : List UInt8) (h : PrW w B g lv cur bp bv acc) :
 Calls Tryz.prog 171 #[.pointer (some ⟨g, 2, none⟩)] w (fun e w' => e = .returned (.tuple #[]) ∧ PrW w' B g lv cur (.pointer (some ⟨g, 2, none⟩)) bv acc ∧ KpG B g w w') := by
 have H := qh9 h
 have c2 := h.c2
 have f2 := h.fr 2
 have hsh : w.shape? g = some (104, 4) := by
  have e := h.blk
  simp [World.shape?, e]
 obtain ⟨j, hj, hjs⟩ := Option.map_eq_some_iff.1 (show (Tryz.prog.info? 102).map (·.size) = some 2 by kernel_rfl)
 have hlies : liesAt Tryz.prog Tryz.prog.depth 104 (4 / Tryz.prog.cellsOf 104) 2 102 1 = true := by kernel_rfl
 have k1 := qh9 (Lib.run_to_unsafe (P := Tryz.prog) (w := w) ⟨g, 2, none⟩ Tryz.underlying99 Tryz.underlying255 hj (by rw [hjs]; decide) hsh (by show 2 < 4; omega))
 have k2 := qh9 (Lib.run_from_unsafe (P := Tryz.prog) (w := w) ⟨g, 2, none⟩ Tryz.underlying255 Tryz.underlying99 hj hsh hlies)
 have k3 := qh9 (Lib.run_neq_ptr_same (P := Tryz.prog) w ⟨g, 2, none⟩ Tryz.underlying99 hj)
 clear hsh hj hjs hlies
 rcases h.ptr with rfl | rfl
 · clear h
   go_enter Tryz.func171, Tryz.ntmps171
   go_wp2
   rw [k1.out]
   simp only [Result.andThen]
   rw [Oper.upon_value]
   go_wp2
   rw [run_callFunc_extern (fn := Tryz.f225) (by kernel_rfl) (by kernel_rfl) (by kernel_rfl) (by kernel_rfl) (e := Extern.AbiNoEscape.same) (by kernel_rfl)]
   rw [Lib.run_noEscape]
   simp only [Result.andThen]
   rw [Oper.upon_value]
   go_wp2
   rw [k2.out]
   simp only [Result.andThen]
   rw [Oper.upon_value]
   go_wp2
   go_end0
   exact ⟨rfl, H.out.set2, KpG.set _ _ _ H.out.hB⟩
 · clear h
   go_enter Tryz.func171, Tryz.ntmps171
   go_wp2
   rw [k3.out]
   go_wp2
   go_end0
   exact ⟨rfl, H.out, KpG.refl _ _ _⟩
theorem writeG (w : World) (B g : Nat) (lv : Value) (cur : ByteArray) (bp bv : Value) (acc : List UInt8) (s : ByteArray) (h : PrW w B g lv cur bp bv acc) (hs : acc.length + s.size ≤ 1000000000000) :
 Calls Tryz.prog 122 #[.pointer (some ⟨g, 2, none⟩), .string s] w (fun e w' => e = .returned (.tuple #[.int .i64 (s.size : Int), .nilIface]) ∧ (∃ bv', PrW w' B g lv cur (.pointer (some ⟨g, 2, none⟩)) bv' (acc ++ LA s)) ∧ KpG B g w w') := by
 have C := qh9 (checkG w B g lv cur bp bv acc h)
 have HS := qh9 hs
 clear h hs
 go_enter Tryz.func122, Tryz.ntmps122
 go_wp2_with fail
 with_reducible refine C.out.mono ?_
 rintro e w1 ⟨rfl, h1, hk1⟩
 have H1 := qh9 h1
 have K1 := qh9 hk1
 have HO := qh9 h1.own
 have HB1 := qh9 (show g + 1 ≤ w1.heap.size from h1.lt)
 have c3 := h1.c3
 clear h1 hk1 C
 go_wp2_with (at_builtin; refine appStr5 rfl (.tmp 12) (.tmp 13) rfl rfl HO.out s rfl HS.out HB1.out ?_)
 intro v' w2 o2 k2
 have O2 := qh9 o2
 have hb2 := H1.out.five k2 o2
 have P2 : Hid (PrW w2 B g lv cur (.pointer (some ⟨g, 2, none⟩)) bv (acc ++ LA s) ∨ True) := .inr trivial
 have K2 : Hid (KpG B g w2 (w2.setCell ⟨g, 3, none⟩ v')) := KpG.set _ _ _ H1.out.hB
 have KK := qh9 ((K1.out.trans (KpG.five k2 H1.out.hB)).trans K2.out)
 have HN : Hid (PrW (w2.setCell ⟨g, 3, none⟩ v') B g lv cur (.pointer (some ⟨g, 2, none⟩)) v' (acc ++ LA s)) := by
  refine ⟨H1.out.hB, ?_, .inr rfl, o2.set5 (by omega) _ _⟩
  simp [World.setCell, Array.getElem?_modify, hb2]
 have f3 : w2.frozen? ⟨g, 3, none⟩ = false := by simp [World.frozen?, hb2]
 have d3 : w2.cell? ⟨g, 3, none⟩ = some bv := by rw [cell_of_row _ _ _ _ _ _ hb2]; rfl
 obtain ⟨A, c, hv2⟩ := o2.shape
 obtain ⟨n, hn⟩ : ∃ n, (acc ++ LA s).length = n := ⟨_, rfl⟩
 rw [hn] at hv2
 clear hn
 subst hv2
 clear o2 k2 hb2 P2 K2 K1 O2 c3
 go_wp2
 go_ret2
 exact ⟨rfl, ⟨_, HN.out⟩, KK.out⟩
theorem stringG (w : World) (B g : Nat) (lv : Value) (cur : ByteArray) (bp bv : Value) (acc : List UInt8) (h : PrW w B g lv cur bp bv acc) (h0 : acc ≠ []) :
 Calls Tryz.prog 73 #[.pointer (some ⟨g, 2, none⟩)] w (fun e w' => e = .returned (.string (BA acc)) ∧ Below B w w') := by
 have c3 : w.drew.cell? ⟨g, 3, none⟩ = some bv := h.c3
 have hB := h.hB
 have hrow := h.own.row
 have hl0 : acc.length ≠ 0 := by simpa using h0
 rcases h.own.2 with ⟨_, hz⟩ | ⟨r, cap, cur', rfl, hbg, hh, hn, hcm, hcs, _⟩
 · exact absurd hz hl0
 · have hSD : (Builtin.unsafeSliceData_ #[100] 174 #[.slice (some ⟨r, 0, none⟩) acc.length cap]).run Tryz.prog w.drew = .ok (.pointer (some ⟨r, 0, none⟩)) w.drew :=
    Lib.run_unsafeSliceData_row _ _ _ _ _ _ (by omega)
   have hUS : (Builtin.unsafeString_ #[174, 3] 9 #[.pointer (some ⟨r, 0, none⟩), .int .i64 acc.length]).run Tryz.prog w.drew = .ok (.string (BA acc)) (w.drew.freeze ⟨r, 0, none⟩ acc.length) := by
    refine Lib.run_unsafeString_row w.drew 174 3 9 5 Tryz.underlying174 (by kernel_rfl) r cur'.size (by have hg' : w.drew.heap[r]? = some (.cells cur' 5 (0, 0)) := hh; simp [World.shape?, hg']) acc h0 (by omega) (by unfold maxLen at hcm; omega) ?_
    intro j x hx
    obtain ⟨hj, rfl⟩ := List.getElem?_eq_some_iff.1 hx
    exact cells_cb hrow j hj
   have HF := qh9 (Lib.below_freeze (Below.drew (Below.refl B w)) (p := ⟨r, 0, none⟩) (show B ≤ r by omega) acc.length)
   clear hB hrow hl0 hbg hh hn hcm hcs h h0
   go_enter Tryz.func73, Tryz.ntmps73
   have mixed : Tryz.prog.follows Departure.mixedOrders = true := by kernel_rfl
   go_wp2
   go_region_o
   all_goals (go_wp2; go_ret; exact ⟨rfl, HF.out⟩)
/-- A span: from s to e, with the spans of the elements. -/
inductive Spn where
 | mk (s e : Nat) (l : List Spn)
def Spn.s : Spn → Nat | .mk s _ _ => s
def Spn.e : Spn → Nat | .mk _ e _ => e
def Spn.l : Spn → List Spn | .mk _ _ l => l
/-- The list (quote x). -/
def isQU (a : Ob) : Ob → Bool
 | .cons _ e => decide (a = quoteO ∧ e = .nil)
 | _ => false
/-- A proper list. -/
def prpU : Ob → Bool
 | .cons _ d => prpU d
 | o => decide (o = .nil)
section
variable (nm : List UInt8 → List UInt8 → List UInt8)
mutual
/-- The span of an object whose text begins at n. -/
def spU : Nat → Ob → Spn
 | n, .cons a d => .mk n (n + (prO nm (.cons a d)).length) (if isQU a d = true then [] else if prpU d = true then spU (n + 1) a :: spE (n + 1 + (prO nm a).length) d else [])
 | n, .num q => .mk n (n + (numS q).length) []
 | n, .str s => .mk n (n + (escL 34 s).length) []
 | n, .sym p m => .mk n (n + (nm p m).length) []
/-- The spans of the elements of a tail. -/
def spE : Nat → Ob → List Spn
 | n, .cons a d => spU (n + 1) a :: spE (n + 1 + (prO nm a).length) d
 | _, _ => []
end
theorem prO_cons (a d : Ob) : prO nm (.cons a d) = if isQU a d = true then 39 :: prO nm (match d with | .cons x _ => x | o => o) else 40 :: (prO nm a ++ prT nm d) := by
 cases d with
 | cons x e => simp only [prO, isQU, decide_eq_true_eq]
 | num q => simp [prO, isQU]
 | str s => simp [prO, isQU]
 | sym p n => simp [prO, isQU]
theorem prT_atom {o : Ob} (h : o.isCons = false) : prT nm o = if o = .nil then [41] else 32 :: 46 :: 32 :: (prO nm o ++ [41]) := by
 cases o with
 | cons a d => exact absurd h (by simp [Ob.isCons])
 | num q => rw [if_neg (by unfold Ob.nil; simp)]; rfl
 | str s => rw [if_neg (by unfold Ob.nil; simp)]; rfl
 | sym p n => rfl
end
/-- The elements' spans lie in rows of S. -/
inductive SpL (w : World) (S : Nat → Prop) : List Spn → Value → Prop where
 | nil : SpL w S [] (.slice none 0 0)
 | row (l : List Spn) (b c : Nat) (cur : Array Value) (x : Nat → Value) : l ≠ [] → l.length ≤ c → S b → w.heap[b]? = some (.cells cur 107 (0, 0)) →
  (∀ i s e m, l[i]? = some (.mk s e m) → cur[i * 3]? = some (.int .i64 (s : Int)) ∧ cur[i * 3 + 1]? = some (.int .i64 (e : Int)) ∧ cur[i * 3 + 2]? = some (x i)) →
  (∀ i s e m, l[i]? = some (.mk s e m) → SpL w S m (x i)) → SpL w S l (.slice (some ⟨b, 0, none⟩) l.length c)
theorem SpL.keep {w w' : World} {S S' : Nat → Prop} {l : List Spn} {v : Value} (h : SpL w S l v) (hS : ∀ b, S b → S' b) (hk : ∀ b cur, S b → w.heap[b]? = some (.cells cur 107 (0, 0)) → w'.heap[b]? = w.heap[b]?) : SpL w' S' l v := by
 induction h with
 | nil => exact .nil
 | row l b c cur x h0 hc hb hh hcell _ ih => exact .row l b c cur x h0 hc (hS b hb) ((hk b cur hb hh).trans hh) hcell ih
/-- The value of a span. -/
def SpV (w : World) (S : Nat → Prop) (t : Spn) (v : Value) : Prop := ∃ x, v = .agg #[.int .i64 (t.s : Int), .int .i64 (t.e : Int), x] ∧ SpL w S t.l x
theorem SpV.leaf2 (w : World) (S : Nat → Prop) (a b : Nat) : SpV w S (.mk a (a + b) []) (.agg #[.int .i64 (a : Int), .int .i64 ((a : Int) + (b : Int)), .slice none 0 0]) := ⟨_, by simp [Spn.s, Spn.e], .nil⟩
theorem noByte {w : World} {b : Nat} {cur : Array Value} (h : w.heap[b]? = some (.cells cur 107 (0, 0))) : ∀ cur' fr, w.heap[b]? ≠ some (.cells cur' 5 fr) := fun cur' fr e => by
 rw [h] at e
 injection e with e
 injection e with _ e _
 exact absurd e (by decide)
theorem blk_lt {w : World} {b : Nat} {x : Obj} (h : w.heap[b]? = some x) : b < w.heap.size := (Array.getElem?_eq_some_iff.1 h).1
theorem SpL.kg {w w' : World} {B g : Nat} {S S' : Nat → Prop} {l : List Spn} {v : Value} (h : SpL w S l v) (hS : ∀ b, S b → S' b) (hg : ∀ b, S b → b ≠ g) (hk : KpG B g w w') : SpL w' S' l v :=
 h.keep hS fun b cur hb hh => hk.keep b (blk_lt hh) (hg b hb) (noByte hh)

/-- The elements so far. -/
def flatS (xs : List (Spn × Value)) : List Value := xs.flatMap fun x => [.int .i64 (x.1.s : Int), .int .i64 (x.1.e : Int), x.2]
theorem flatS_snoc (xs : List (Spn × Value)) (t : Spn) (x : Value) : flatS (xs ++ [(t, x)]) = flatS xs ++ [.int .i64 (t.s : Int), .int .i64 (t.e : Int), x] := by simp [flatS]
theorem flatS_get : ∀ (xs : List (Spn × Value)) (i : Nat) (t : Spn) (v : Value), xs[i]? = some (t, v) → (flatS xs)[i * 3]? = some (.int .i64 (t.s : Int)) ∧ (flatS xs)[i * 3 + 1]? = some (.int .i64 (t.e : Int)) ∧ (flatS xs)[i * 3 + 2]? = some v
 | [], i, t, v, h => by simp at h
 | x :: xs, 0, t, v, h => by
  obtain rfl : x = (t, v) := by simpa using h
  simp [flatS]
 | x :: xs, i + 1, t, v, h => by
  have h' : xs[i]? = some (t, v) := by simpa using h
  have := flatS_get xs i t v h'
  have e : flatS (x :: xs) = [.int .i64 (x.1.s : Int), .int .i64 (x.1.e : Int), x.2] ++ flatS xs := rfl
  rw [e, show (i + 1) * 3 = 3 + i * 3 from by omega]
  simp only [Nat.add_assoc]
  refine ⟨?_, ?_, ?_⟩
  · rw [List.getElem?_append_right (by simp), List.length_cons, List.length_cons, List.length_cons, List.length_nil, show 3 + i * 3 - 3 = i * 3 from by omega]; exact this.1
  · rw [List.getElem?_append_right (by simp), List.length_cons, List.length_cons, List.length_cons, List.length_nil, show 3 + (i * 3 + 1) - 3 = i * 3 + 1 from by omega]; exact this.2.1
  · rw [List.getElem?_append_right (by simp), List.length_cons, List.length_cons, List.length_cons, List.length_nil, show 3 + (i * 3 + 2) - 3 = i * 3 + 2 from by omega]; exact this.2.2
structure SpK (B : Nat) (wr : World) (v : Value) (xs : List (Spn × Value)) : Prop where
 own : wr.ownsRow B 107 3 v xs.length (flatS xs)
 sub : ∀ x ∈ xs, SpL wr (fun b => B ≤ b ∧ b < wr.heap.size ∧ v.ownBlock ≠ some b) x.1.l x.2
theorem SpK.start (w : World) (B : Nat) : SpK B w (.slice none 0 0) [] := ⟨⟨rfl, .inl ⟨rfl, rfl⟩⟩, fun x hx => by simp at hx⟩
theorem own_blk {w : World} {B : Nat} {e : TypeId} {size n : Nat} {v : Value} {xs : List Value} (h : w.ownsRow B e size v n xs) {g : Nat} (hg : v.ownBlock = some g) : ∃ cur, w.heap[g]? = some (.cells cur e (0, 0)) := by
 rcases h.2 with ⟨rfl, _⟩ | ⟨g', cap, cur, rfl, hb, hh, _⟩
 · simp [Value.ownBlock] at hg
 · have e : g' = g := by simpa [Value.ownBlock] using hg
   exact ⟨cur, e ▸ hh⟩
/-- Behind what keeps every row of spans. -/
theorem SpK.keep {B : Nat} {w w' : World} {v : Value} {xs : List (Spn × Value)} (h : SpK B w v xs) (hs : w.heap.size ≤ w'.heap.size) (hk : ∀ b cur, B ≤ b → w.heap[b]? = some (.cells cur 107 (0, 0)) → w'.heap[b]? = w.heap[b]?) : SpK B w' v xs :=
 ⟨own_keep h.own fun g hg => by
  obtain ⟨cur, hh⟩ := own_blk h.own hg
  exact hk g cur (own_lt h.own g hg).1 hh, fun x hx => (h.sub x hx).keep (fun b hb => ⟨hb.1, by omega, hb.2.2⟩) fun b cur hb hh => hk b cur hb.1 hh⟩
theorem SpK.kg {B B' g : Nat} {w w' : World} {v : Value} {xs : List (Spn × Value)} (h : SpK B w v xs) (hk : KpG B' g w w') (hg : g < B) : SpK B w' v xs :=
 h.keep hk.bel.size fun b cur hb hh => hk.keep b (blk_lt hh) (by omega) (noByte hh)
theorem SpK.below {B : Nat} {w w' : World} {v : Value} {xs : List (Spn × Value)} (h : SpK B w v xs) (hb : Below w.heap.size w w') : SpK B w' v xs :=
 h.keep hb.size fun b cur _ hh => hb.block b (blk_lt hh)
/-- One more. -/
theorem SpK.step {B : Nat} {w w3 w4 : World} {v v' : Value} {xs : List (Spn × Value)} (h : SpK B w v xs) {S : Nat → Prop} {t : Spn} {x : Value} (hx : SpL w S t.l x) (hS : ∀ b, S b → B ≤ b ∧ b < w.heap.size ∧ v.ownBlock ≠ some b) (hb : Below w.heap.size w w3)
 (h4 : w4.ownsRow B 107 3 v' (xs.length + 1) (flatS xs ++ [.int .i64 (t.s : Int), .int .i64 (t.e : Int), x])) (hg : w3.grownBy w4 v.ownBlock) (hat : v'.ownBlock = v.ownBlock ∨ v'.ownBlock = some w3.heap.size) :
 SpK B w4 v' (xs ++ [(t, x)]) := by
 have h34 := hg.size
 have hs3 := hb.size
 have blk : ∀ b, b < w.heap.size → v.ownBlock ≠ some b → w4.heap[b]? = w.heap[b]? := fun b hb' hne =>
  (hg.block b (by omega) (fun e => hne e.symm)).trans (hb.block b hb')
 have hne' : ∀ b, b < w.heap.size → v.ownBlock ≠ some b → v'.ownBlock ≠ some b := fun b hb' hne e => by
  rcases hat with h0 | h0
  · exact hne (h0.symm.trans e)
  · rw [h0] at e
    have : w3.heap.size = b := by injection e
    omega
 refine ⟨by rw [flatS_snoc, List.length_append]; exact h4, fun y hy => ?_⟩
 rcases List.mem_append.1 hy with hy | hy
 · exact (h.sub y hy).keep (fun b hb' => ⟨hb'.1, by omega, hne' b hb'.2.1 hb'.2.2⟩) (fun b cur hb' _ => blk b hb'.2.1 hb'.2.2)
 · obtain rfl : y = (t, x) := by simpa using hy
   exact hx.keep (fun b hb' => ⟨(hS b hb').1, by have := (hS b hb').2.1; omega, hne' b (hS b hb').2.1 (hS b hb').2.2⟩) (fun b cur hb' _ => blk b (hS b hb').2.1 (hS b hb').2.2)
/-- The list as it is at the end. -/
theorem SpK.fin {B : Nat} {w : World} {v : Value} {xs : List (Spn × Value)} (h : SpK B w v xs) (h0 : xs ≠ []) : SpL w (fun b => B ≤ b ∧ b < w.heap.size) (xs.map (·.1)) v := by
 have hpos : 0 < xs.length := List.length_pos_iff.2 h0
 rcases h.own.2 with ⟨_, hz⟩ | ⟨g, cap, cur, rfl, hb, hh, hn, _, hcs, htake⟩
 · omega
 · have hl : (xs.map (·.1)).length = xs.length := by simp
   rw [← hl]
   have key : ∀ (i s e : Nat) (m : List Spn), (xs.map (·.1))[i]? = some (Spn.mk s e m) → ∃ x, xs[i]? = some (Spn.mk s e m, x) := fun i s e m hi => by
    rw [List.getElem?_map] at hi
    cases hx : xs[i]? with
    | none => rw [hx] at hi; simp at hi
    | some y => rw [hx] at hi; simp at hi; exact ⟨y.2, by rw [← hi]⟩
   have hcur : ∀ j u, (flatS xs)[j]? = some u → cur[j]? = some u := fun j u hj => by
    rw [← htake, List.getElem?_take] at hj
    split at hj
    · simpa using hj
    · cases hj
   refine SpL.row (w := w) (S := fun b => B ≤ b ∧ b < w.heap.size) (xs.map (·.1)) g cap cur (fun i => ((xs[i]?).map (·.2)).getD undef) (by simpa using h0) (by omega) (show B ≤ g ∧ g < w.heap.size from ⟨hb, blk_lt hh⟩) hh (fun i s e m hi => ?_) (fun i s e m hi => ?_)
   · obtain ⟨x, hx⟩ := key i s e m hi
     obtain ⟨h1, h2, h3⟩ := flatS_get xs i _ x hx
     refine ⟨hcur _ _ h1, hcur _ _ h2, ?_⟩
     rw [hx]
     exact hcur _ _ h3
   · obtain ⟨x, hx⟩ := key i s e m hi
     show SpL w _ m (((xs[i]?).map (·.2)).getD undef)
     rw [hx]
     exact (h.sub (Spn.mk s e m, x) (List.mem_of_getElem? hx)).keep (S' := fun b => B ≤ b ∧ b < w.heap.size) (fun b hb => ⟨hb.1, hb.2.1⟩) (fun _ _ _ _ => rfl)
/-- The printing stands where a row of spans grows. -/
theorem OwnB.rows {w w' : World} {B : Nat} {v : Value} {l : List UInt8} (h : OwnB w B v l) (hk : ∀ (r : Nat) (cur : Array Value), w.heap[r]? = some (.cells cur 5 (0, 0)) → w'.heap[r]? = w.heap[r]?) : OwnB w' B v l := by
 refine ⟨h.1, ?_⟩
 rcases h.2 with hn' | ⟨r, cap, cur, rfl, h1, hh, h2⟩
 · exact .inl hn'
 · exact .inr ⟨r, cap, cur, rfl, h1, (hk r cur hh).trans hh, h2⟩
theorem SpK.noByte {B : Nat} {w : World} {v : Value} {xs : List (Spn × Value)} (h : SpK B w v xs) {r : Nat} {cur : Array Value} (hr : w.heap[r]? = some (.cells cur 5 (0, 0))) : v.ownBlock ≠ some r := fun e => by
 obtain ⟨cur', hh⟩ := own_blk h.own e
 exact Go.Proofs.YtlocnkobancjmaaGreatDoor.noByte hh _ _ hr
theorem PrW.grown {w w3 w4 : World} {B B' g : Nat} {lv : Value} {cur : ByteArray} {bp bv v : Value} {acc : List UInt8} {xs : List (Spn × Value)} (h : PrW w B g lv cur bp bv acc) (hK : SpK B' w v xs) (hg' : g < B') (hb : Below w.heap.size w w3) (hg : w3.grownBy w4 v.ownBlock) : PrW w4 B g lv cur bp bv acc := by
 have hs3 := hb.size
 have blk : ∀ b, b < w.heap.size → v.ownBlock ≠ some b → w4.heap[b]? = w.heap[b]? := fun b hb' hne =>
  (hg.block b (by omega) (fun e => hne e.symm)).trans (hb.block b hb')
 exact ⟨h.hB, (blk g h.lt (fun e => by have := (own_lt hK.own g e).1; omega)).trans h.blk, h.ptr, h.own.rows fun r cur hr => blk r (blk_lt hr) (hK.noByte hr)⟩
theorem KpG.grown {B g B' : Nat} {w w2 w3 w4 : World} {v : Value} {xs : List (Spn × Value)} (h : KpG B g w w2) (hK : SpK B' w2 v xs) (hB : B ≤ w.heap.size) (hB' : w.heap.size ≤ B') (hb : Below w2.heap.size w2 w3) (hg : w3.grownBy w4 v.ownBlock) : KpG B g w w4 := by
 have hs := h.bel.size
 have hs3 := hb.size
 have hlt := own_lt hK.own
 refine ⟨(h.bel.trans (hb.mono (by omega))).grown hg (by omega) (fun k hk => by have := (hlt k hk).1; omega), fun k hk hkg hn => ?_⟩
 exact ((hg.block k (by omega) (fun e => by have := (hlt k e.symm).1; omega)).trans (hb.block k (by omega))).trans (h.keep k hk hkg hn)
theorem cells_of_strs {H : Type} {enc : TypeId × Value → H} {P : Program} {w : World} {base : Nat} {sp : Nat → Bool} {held : Bool} {fuel : Nat} {t e : TypeId} {n : Nat} {cs : List Value} {ss : List (List UInt8)} {p : List MemPlace}
 (ht : P.underlying t = some (.array n e)) (he : P.underlying e = some .string) (hce : P.cellsOf e = 1) (hct : P.cellsOf t = n)
 (h : DataW.trod enc P w base sp held fuel t cs = some (.agg (ss.map fun s => .lit (.string s)), p)) : cs = ss.map fun s => Value.string ⟨s.toArray⟩ := by
 cases fuel with
 | zero => simp [DataW.trod] at h
 | succ fuel =>
  simp only [DataW.trod, ht, hce, hct, Nat.mul_one] at h
  split at h
  · rename_i hl
    obtain ⟨xs, hm, hx⟩ := Option.map_eq_some_iff.1 h
    have hxs : xs.map (·.1) = ss.map fun s => (DataW.lit (.string s) : DataW H) := by
     have := congrArg Prod.fst hx
     simpa using this
    have hxl : xs.length = n := by simpa using Lib.mapM_length hm
    have hzl : ss.length = n := by
     have := congrArg List.length hxs
     simp at this
     omega
    apply List.ext_getElem?
    intro i
    by_cases hi : i < n
    · obtain ⟨b, hb, hf⟩ := Lib.mapM_at hm i i (by simp [hi])
      obtain ⟨z, hc, rfl, _⟩ := DataW.trod_string he hf
      have h1 : cs[i]? = some (.string z) := by
       have := congrArg (·[0]?) hc
       simpa [List.getElem?_take, List.getElem?_drop] using this
      have h2 : (xs.map (·.1))[i]? = some (DataW.lit (.string z.data.toList) : DataW H) := by simp [hb]
      rw [hxs] at h2
      simp only [List.getElem?_map, Option.map_eq_some_iff, DataW.lit.injEq, Lit.string.injEq] at h2
      obtain ⟨z', hz', hzz⟩ := h2
      simp [h1, hz', hzz]
    · rw [List.getElem?_eq_none (by omega), List.getElem?_eq_none (by simp; omega)]
  · cases h
/-- The lengths of texts. -/
theorem nmU_len (l : List Sy.Pg) (cur : ByteArray) (p n : List UInt8) : (nmU l cur p n).length ≤ p.length + 4 + 2 * n.length := by
 unfold nmU
 have w1 : ∀ q, (wordS n q).length ≤ 2 * n.length + 2 := fun q => by
  unfold wordS
  split
  · omega
  · exact escL_len 124 n
 split
 · have := w1 false; omega
 · have := w1 true
   simp only [List.length_append, List.length_cons]
   omega
theorem symOk_of {p n : List UInt8} (h : SyOk p n) : Sy.symOk (BA p) (BA n) = true := by
 obtain ⟨h1, h2, h3⟩ := h
 have hn : Sy.nameOk (BA n) = true := by
  unfold Sy.nameOk
  rw [BA_size, decide_eq_true h2, decide_eq_true h3]
  rfl
 unfold Sy.symOk
 rw [hn, Bool.and_true]
 rcases h1 with rfl | rfl
 · rfl
 · rfl
section
variable {nm : List UInt8 → List UInt8 → List UInt8}
theorem numS_len {k : Nat} {q : Rat} (hb : Bd k q) : (numS q).length ≤ 2 * k + 5 := by
 have e := congrArg ByteArray.size (numS_bytes q)
 rw [BA_size] at e
 rw [e]
 have z1 := bd_nt hb
 have z2 := bd_dt hb
 have z3 : (⟨#[47]⟩ : ByteArray).size = 1 := rfl
 split
 · omega
 · rw [ByteArray.size_append, ByteArray.size_append]; omega
/-- How long a text can be: c for each node. -/
theorem prO_len {k c : Nat} (hc : 4 * k + 100 ≤ c) (hnm : ∀ p n, SyOk p n → (nm p n).length ≤ 88) : ∀ (m : Nat) (o : Ob), o.nodes ≤ m → o.bd k → (prO nm o).length ≤ c * o.nodes ∧ (prT nm o).length ≤ c * o.nodes + 4 := by
 intro m
 induction m with
 | zero => intro o h; have := o.nodes_pos; omega
 | succ m ih =>
  intro o hm hb
  have atom : ∀ o : Ob, o.isCons = false → o.nodes = 1 → (prO nm o).length ≤ c → (prO nm o).length ≤ c * o.nodes ∧ (prT nm o).length ≤ c * o.nodes + 4 := fun o hf h1 h => by
   rw [prT_atom nm hf, h1]
   refine ⟨by omega, ?_⟩
   split
   · simp
   · simp only [List.length_cons, List.length_append, List.length_nil]; omega
  cases o with
  | num q => exact atom (.num q) rfl rfl (by have := numS_len (show Bd k q from hb); show (numS q).length ≤ c; omega)
  | str s => exact atom (.str s) rfl rfl (by have := escL_len 34 s; have h2 : s.length ≤ 2 * k + 20 := hb; show (escL 34 s).length ≤ c; omega)
  | sym x y => exact atom (.sym x y) rfl rfl (by have := hnm x y hb; show (nm x y).length ≤ c; omega)
  | cons a d =>
   have hn : (Ob.cons a d).nodes = 1 + a.nodes + d.nodes := rfl
   obtain ⟨a1, _⟩ := ih a (by omega) hb.1
   obtain ⟨_, d2⟩ := ih d (by omega) hb.2
   have e : c * (1 + a.nodes + d.nodes) = c + c * a.nodes + c * d.nodes := by rw [Nat.mul_add, Nat.mul_add, Nat.mul_one]
   refine ⟨?_, ?_⟩
   · rw [prO_cons, hn, e]
     split
     · rename_i hq
       cases d with
       | num q => cases hq
       | str s => cases hq
       | sym x y => cases hq
       | cons x e' =>
        have hd : (Ob.cons x e').nodes = 1 + x.nodes + e'.nodes := rfl
        obtain ⟨x1, _⟩ := ih x (by omega) hb.2.1
        show (prO nm x).length + 1 ≤ _
        have : c * (Ob.cons x e').nodes = c + c * x.nodes + c * e'.nodes := by rw [hd, Nat.mul_add, Nat.mul_add, Nat.mul_one]
        omega
     · simp only [List.length_cons, List.length_append]
       omega
   · have e2 : prT nm (.cons a d) = 32 :: (prO nm a ++ prT nm d) := rfl
     rw [e2, hn, e]
     simp only [List.length_cons, List.length_append]
     omega
theorem prO_ne (hnm : ∀ p n, SyOk p n → nm p n ≠ []) {k : Nat} {o : Ob} (hb : o.bd k) : prO nm o ≠ [] := by
 cases o with
 | num q => exact (numS_con q).2.1
 | str s => exact fun h => by have : escL 34 s = [] := h; unfold escL at this; simp at this
 | sym x y => exact hnm x y hb
 | cons a d => rw [prO_cons]; split <;> simp
end
theorem nmU_ne (l : List Sy.Pg) (cur : ByteArray) (p n : List UInt8) (h : SyOk p n) : nmU l cur p n ≠ [] := by
 unfold nmU
 split
 · unfold wordS
   split
   · intro e; have := h.2.1; rw [e] at this; simp at this
   · intro e; unfold escL at e; simp at e
 · simp
theorem nmU_len88 (l : List Sy.Pg) (cur : ByteArray) (p n : List UInt8) (h : SyOk p n) : (nmU l cur p n).length ≤ 88 := by
 have := nmU_len l cur p n
 obtain ⟨h1, h2, h3⟩ := h
 have : p.length ≤ 4 := by rcases h1 with rfl | rfl <;> decide
 omega

section
variable (nm kp : List UInt8 → List UInt8 → List UInt8)
variable (sym : Tk → (List UInt8 × List UInt8) × Int)
/-- A list, from what its first element and its rest come to. -/
theorem par_listT (a t : Ob) (f : Nat) (d : Int) (ts us : List Tk) (hk : ts.map Tk.key = (1, [], [], []) :: (tkO kp a ++ tkT kp t)) (hf : 2 * ((tkO kp a).length + (tkT kp t).length + 1) ≤ f) (hd : d + ((1 + (tkO kp a).length + (tkT kp t).length : Nat) : Int) ≤ 201)
 (ia : ∀ (f : Nat) (d : Int) (ts us : List Tk), ts.map Tk.key = tkO kp a → 2 * (tkO kp a).length ≤ f → d + ((tkO kp a).length : Int) ≤ 201 → parF sym numT' f d (ts ++ us) = .ok a us)
 (it : ∀ (f : Nat) (d : Int) (acc : List Ob) (ts us : List Tk), acc ≠ [] → ts.map Tk.key = tkT kp t → 2 * (tkT kp t).length + 1 ≤ f → d + ((tkT kp t).length : Int) ≤ 201 → lisF sym numT' f d acc (ts ++ us) = .ok (consL acc t) us) :
 parF sym numT' f d (ts ++ us) = .ok (.cons a t) us := by
 obtain ⟨t0, vs, rfl, ht, hv⟩ := key_cons hk
 obtain ⟨f, rfl⟩ : ∃ g, f = g + 1 := ⟨f - 1, by omega⟩
 obtain ⟨f, rfl⟩ : ∃ g, f = g + 1 := ⟨f - 1, by omega⟩
 obtain ⟨h1, _⟩ := Tk.key_k ht
 obtain ⟨xs, ys, rfl, hx, hy⟩ := key_app hv
 have hpos := tkO_pos kp a
 have pa := ia f (d + 1) xs (ys ++ us) hx (by omega) (by omega)
 have pt := it f (d + 1) [a] ys us (by simp) hy (by omega) (by omega)
 rw [List.cons_append, parF, if_neg (by omega), if_neg (by omega), if_neg (by omega), if_neg (by omega), if_neg (by omega), if_neg (by omega), if_neg (by omega)]
 cases xs with
 | nil => rw [← hx] at hpos; simp at hpos
 | cons x xs =>
  obtain ⟨n2, n3, _⟩ := tkO_head kp hx
  rw [List.append_assoc, List.cons_append, lisF, if_neg n2, if_neg (fun h => n3 h.1), ← List.cons_append, pa]
  simp only
  rw [List.nil_append, pt]
  rfl
mutual
theorem par_obT : ∀ (o : Ob) (f : Nat) (d : Int) (ts us : List Tk), OkP (SymOf kp sym) o → ts.map Tk.key = tkO kp o → 2 * (tkO kp o).length ≤ f → d + ((tkO kp o).length : Int) ≤ 201 → parF sym numT' f d (ts ++ us) = .ok o us
 | .num q, f, d, ts, us, hP, hk, hf, hd => by
  unfold tkO at hk hf hd
  obtain ⟨t, rfl, ht⟩ := key_one hk
  obtain ⟨f, rfl⟩ : ∃ g, f = g + 1 := ⟨f - 1, by simp at hf; omega⟩
  exact par_num sym ht
 | .str s, f, d, ts, us, hP, hk, hf, hd => by
  unfold tkO at hk hf hd
  obtain ⟨t, rfl, ht⟩ := key_one hk
  obtain ⟨f, rfl⟩ : ∃ g, f = g + 1 := ⟨f - 1, by simp at hf; omega⟩
  exact par_str sym ht
 | .sym p m, f, d, ts, us, hP, hk, hf, hd => by
  unfold tkO at hk hf hd
  obtain ⟨t, rfl, ht⟩ := key_one hk
  obtain ⟨f, rfl⟩ : ∃ g, f = g + 1 := ⟨f - 1, by simp at hf; omega⟩
  exact par_sym kp sym hP ht
 | .cons a (.cons x e), f, d, ts, us, hP, hk, hf, hd => by
  have hn : (Ob.cons a (.cons x e)).nodes = 1 + a.nodes + (1 + x.nodes + e.nodes) := rfl
  unfold tkO at hk hf hd
  by_cases hq : a = quoteO ∧ e = .nil
  · rw [if_pos hq] at hk hf hd
    obtain ⟨t, vs, rfl, ht, hv⟩ := key_cons hk
    simp only [List.length_cons] at hf hd
    obtain ⟨f, rfl⟩ : ∃ g, f = g + 1 := ⟨f - 1, by omega⟩
    obtain ⟨h1, _⟩ := Tk.key_k ht
    rw [List.cons_append, parF, if_neg (by omega), if_neg (by omega), if_neg (by omega), if_neg (by omega), if_neg (by omega), if_neg (by omega), if_pos h1,
     par_obT x f (d + 1) vs us hP.2.1 hv (by omega) (by omega)]
    simp only
    rw [hq.1, hq.2]
  · rw [if_neg hq] at hk hf hd
    exact par_listT kp sym a (.cons x e) f d ts us hk (by simpa using hf) (by simp only [List.length_cons, List.length_append] at hd; omega) (fun f d ts us h1 h2 h3 => par_obT a f d ts us hP.1 h1 h2 h3) (fun f d acc ts us h0 h1 h2 h3 => lis_tlT (.cons x e) f d acc ts us h0 hP.2 h1 h2 h3)
 | .cons a (.num q), f, d, ts, us, hP, hk, hf, hd => by
  unfold tkO at hk hf hd
  exact par_listT kp sym a (.num q) f d ts us hk (by simpa using hf) (by simp only [List.length_cons, List.length_append] at hd; omega) (fun f d ts us h1 h2 h3 => par_obT a f d ts us hP.1 h1 h2 h3) (fun f d acc ts us h0 h1 h2 h3 => lis_tlT (.num q) f d acc ts us h0 hP.2 h1 h2 h3)
 | .cons a (.str s), f, d, ts, us, hP, hk, hf, hd => by
  unfold tkO at hk hf hd
  exact par_listT kp sym a (.str s) f d ts us hk (by simpa using hf) (by simp only [List.length_cons, List.length_append] at hd; omega) (fun f d ts us h1 h2 h3 => par_obT a f d ts us hP.1 h1 h2 h3) (fun f d acc ts us h0 h1 h2 h3 => lis_tlT (.str s) f d acc ts us h0 hP.2 h1 h2 h3)
 | .cons a (.sym p m), f, d, ts, us, hP, hk, hf, hd => by
  unfold tkO at hk hf hd
  exact par_listT kp sym a (.sym p m) f d ts us hk (by simpa using hf) (by simp only [List.length_cons, List.length_append] at hd; omega) (fun f d ts us h1 h2 h3 => par_obT a f d ts us hP.1 h1 h2 h3) (fun f d acc ts us h0 h1 h2 h3 => lis_tlT (.sym p m) f d acc ts us h0 hP.2 h1 h2 h3)
theorem lis_tlT : ∀ (t : Ob) (f : Nat) (d : Int) (acc : List Ob) (ts us : List Tk), acc ≠ [] → OkP (SymOf kp sym) t → ts.map Tk.key = tkT kp t → 2 * (tkT kp t).length + 1 ≤ f → d + ((tkT kp t).length : Int) ≤ 201 → lisF sym numT' f d acc (ts ++ us) = .ok (consL acc t) us
 | .cons a t, f, d, acc, ts, us, hacc, hP, hk, hf, hd => by
  unfold tkT at hk hf hd
  have hn : (Ob.cons a t).nodes = 1 + a.nodes + t.nodes := rfl
  rw [List.length_append] at hf hd
  obtain ⟨f, rfl⟩ : ∃ g, f = g + 1 := ⟨f - 1, by omega⟩
  obtain ⟨xs, ys, rfl, hx, hy⟩ := key_app hk
  have hpos := tkO_pos kp a
  have pa := par_obT a f d xs (ys ++ us) hP.1 hx (by omega) (by omega)
  have pt := lis_tlT t f d (acc ++ [a]) ys us (by simp) hP.2 hy (by omega) (by omega)
  cases xs with
  | nil => rw [← hx] at hpos; simp at hpos
  | cons x xs =>
   obtain ⟨n2, n3, _⟩ := tkO_head kp hx
   rw [List.append_assoc, List.cons_append, lisF, if_neg n2, if_neg (fun h => n3 h.1), ← List.cons_append, pa]
   simp only
   rw [pt, consL_snoc]
 | .num q, f, d, acc, ts, us, hacc, hP, hk, hf, hd => by
  unfold tkT at hk hf hd
  obtain ⟨t, r1, rfl, ht, h1⟩ := key_cons hk
  obtain ⟨u, r2, rfl, hu, h2⟩ := key_cons h1
  obtain ⟨v, rfl, hv⟩ := key_one h2
  simp only [List.length_cons, List.length_nil] at hf
  obtain ⟨f, rfl⟩ : ∃ g, f = g + 1 + 1 := ⟨f - 2, by omega⟩
  exact lis_dot sym hacc (Tk.key_k ht).1 (Tk.key_k hv).1 (par_num sym hu)
 | .str s, f, d, acc, ts, us, hacc, hP, hk, hf, hd => by
  unfold tkT at hk hf hd
  obtain ⟨t, r1, rfl, ht, h1⟩ := key_cons hk
  obtain ⟨u, r2, rfl, hu, h2⟩ := key_cons h1
  obtain ⟨v, rfl, hv⟩ := key_one h2
  simp only [List.length_cons, List.length_nil] at hf
  obtain ⟨f, rfl⟩ : ∃ g, f = g + 1 + 1 := ⟨f - 2, by omega⟩
  exact lis_dot sym hacc (Tk.key_k ht).1 (Tk.key_k hv).1 (par_str sym hu)
 | .sym p m, f, d, acc, ts, us, hacc, hP, hk, hf, hd => by
  unfold tkT at hk hf hd
  by_cases hn : Ob.sym p m = .nil
  · rw [if_pos hn] at hk hf hd
    obtain ⟨t, rfl, ht⟩ := key_one hk
    obtain ⟨f, rfl⟩ : ∃ g, f = g + 1 := ⟨f - 1, by simp at hf; omega⟩
    rw [hn]
    show lisF sym numT' (f + 1) d acc (t :: us) = _
    rw [lisF, if_pos (Tk.key_k ht).1]
  · rw [if_neg hn] at hk hf hd
    obtain ⟨t, r1, rfl, ht, h1⟩ := key_cons hk
    obtain ⟨u, r2, rfl, hu, h2⟩ := key_cons h1
    obtain ⟨v, rfl, hv⟩ := key_one h2
    simp only [List.length_cons, List.length_nil] at hf
    obtain ⟨f, rfl⟩ : ∃ g, f = g + 1 + 1 := ⟨f - 2, by omega⟩
    exact lis_dot sym hacc (Tk.key_k ht).1 (Tk.key_k hv).1 (par_sym kp sym hP hu)
end
/-- A text of few tokens that holds one object is read as the object. -/
theorem read_tk (o : Ob) (n : Nat) (h1 : OkP (SymRd nm kp n) o) (h2 : OkP (SymOf kp sym) o) (ht : (tkO kp o).length ≤ 201) (hn : o.nodes ≤ 3000) :
 ∃ ts p, toksL okP numP sizP n (prO nm o) = .ok ts ∧ allF sym numT' ts.length [] ts = (.ok [(o, p)], true) ∧ ts.length = (tkO kp o).length + 1 := by
 obtain ⟨ts, hk, hb⟩ := begins_ob nm kp n o [] h1 delim_nil
 have he : toksL okP numP sizP n [] = .ok [⟨0, n, [], [], []⟩] := by rw [toksL_eq, skipL_nil]
 have ht2 := hb _ he
 rw [List.append_nil] at ht2
 have hpos := tkO_pos kp o
 rw [← hk, List.length_map] at hpos
 cases ts with
 | nil => simp at hpos
 | cons t ts =>
  obtain ⟨_, _, n0⟩ := tkO_head kp hk
  have hlen : (tkO kp o).length = ts.length + 1 := by rw [← hk]; simp
  refine ⟨_, t.p, ht2, ?_, by rw [hlen]; simp⟩
  have hp := par_obT kp sym o (2 * ((ts ++ [(⟨0, n, [], [], []⟩ : Tk)]).length + 1) + 2) 0 (t :: ts) [⟨0, n, [], [], []⟩] h2 hk (by simp; omega) (by omega)
  rw [List.cons_append] at hp ⊢
  show allF sym numT' ((ts ++ [_]).length + 1) [] (t :: (ts ++ [_])) = _
  rw [allF, if_neg n0, if_neg (by simp), hp]
  simp only
  rw [if_neg (by omega)]
  have : (ts ++ [(⟨0, n, [], [], []⟩ : Tk)]).length = ts.length + 1 := by simp
  rw [this, List.nil_append, allF]
  simp
end
/-- One answers the object of its printed text, where that has few tokens and is no longer than a source may be. -/
theorem one_tk (l : List Sy.Pg) (cur : ByteArray) (o : Ob) (hp : PrOkU l o) (ht : (tkO (kpS l cur) o).length ≤ 201) (hn : o.nodes ≤ 3000) (hz : (prO (nmU l cur) o).length ≤ 6000) : oneS l cur (BA (prO (nmU l cur) o)) = .ok o ∧ SmS (BA (prO (nmU l cur) o)) := by
 have hsz : (BA (prO (nmU l cur) o)).size ≤ 6000 := by rw [BA_size]; exact hz
 obtain ⟨ts, p, h1, h2, h3⟩ := read_tk (nmU l cur) (kpS l cur) (symL l cur) o (BA (prO (nmU l cur) o)).size (prOk_rd l cur _ hp) (prOk_of l cur hp) ht hn
 have hs : scanS (BA (prO (nmU l cur) o)) = .ok ts := by rw [scanS_small hsz, LA_BA]; exact h1
 refine ⟨?_, ⟨by omega, fun ts' h => ?_⟩⟩
 · unfold oneS readS readL
   rw [hs]
   have e : (numK : Tk → Rat) = numT' := rfl
   rw [e]
   simp only
   rw [h2]
 · rw [hs] at h
   injection h with h
   subst h
   omega
section
variable (l : List Sy.Pg) (cur : ByteArray)
/-- What a token may cost in the printed text. -/
def wtT (t : Tk) : Nat := 2 * (t.txt.length + t.den.length) + 32
def wtS : List Tk → Nat
 | [] => 0
 | t :: r => wtT t + wtS r
theorem wtS_app : ∀ a b : List Tk, wtS (a ++ b) = wtS a + wtS b
 | [], b => by simp [wtS]
 | t :: r, b => by
  have := wtS_app r b
  rw [List.cons_append]
  simp only [wtS]
  omega
/-- What is asked of a token: the leaf that it makes can be printed. -/
structure LfOk (t : Tk) : Prop where
 num : t.k = 5 → NumOk (numT' t) ∧ (numS (numT' t)).length + 10 ≤ wtT t
 str : t.k = 7 → t.txt.length ≤ 200 ∧ (escL 34 t.txt).length + 10 ≤ wtT t
 sym : t.k = 6 → (symL l cur t).2 = 0 → (Sy.symOk (BA (symL l cur t).1.1) (BA (symL l cur t).1.2) = true ∧ Sy.homeM l (BA (symL l cur t).1.1, BA (symL l cur t).1.2) = true) ∧ (nmU l cur (symL l cur t).1.1 (symL l cur t).1.2).length + 4 ≤ wtT t
/-- What is asked of the packages: quote and nil are at home, their texts short. -/
structure LpOk : Prop where
 q : PrOkU l quoteO
 n : PrOkU l .nil
 ql : (prO (nmU l cur) quoteO).length ≤ 26
 nl : (prO (nmU l cur) .nil).length ≤ 26
/-- What came of the tokens cs. -/
structure Gd (o : Ob) (cs : List Tk) : Prop where
 ok : PrOkU l o
 tk : (tkO (kpS l cur) o).length ≤ cs.length
 nd : o.nodes + 1 ≤ 4 * cs.length
 tx : (prO (nmU l cur) o).length + 4 ≤ wtS cs
/-- The same of the rest of a list. -/
structure GdT (o : Ob) (cs : List Tk) : Prop where
 ok : PrOkU l o
 tk : (tkT (kpS l cur) o).length ≤ cs.length
 nd : o.nodes ≤ 4 * cs.length
 tx : (prT (nmU l cur) o).length ≤ wtS cs
variable {l cur}
theorem tkO_listU {a d : Ob} (h : isQU a d = false) : tkO (kpS l cur) (.cons a d) = (1, [], [], []) :: (tkO (kpS l cur) a ++ tkT (kpS l cur) d) := by
 cases d with
 | cons x e =>
  have hq : ¬ (a = quoteO ∧ e = .nil) := fun h' => by simp [isQU, h'.1, h'.2] at h
  rw [tkO, if_neg hq]
 | num q => rw [tkO]
 | str s => rw [tkO]
 | sym p m => rw [tkO]
theorem tkT_le : ∀ o : Ob, (tkT (kpS l cur) o).length ≤ (tkO (kpS l cur) o).length + 2
 | .num q => by simp [tkT, tkO]
 | .str q => by simp [tkT, tkO]
 | .sym p m => by
  unfold tkT tkO
  split <;> simp
 | .cons a d => by
  cases hq : isQU a d with
  | false =>
   rw [tkO_listU hq, show tkT (kpS l cur) (.cons a d) = tkO (kpS l cur) a ++ tkT (kpS l cur) d by rw [tkT]]
   simp only [List.length_cons]
   omega
  | true =>
   cases d with
   | num q => cases hq
   | str q => cases hq
   | sym p m => cases hq
   | cons x e =>
    have hq2 : a = quoteO ∧ e = .nil := by simpa [isQU] using hq
    rw [show tkT (kpS l cur) (.cons a (.cons x e)) = tkO (kpS l cur) a ++ (tkO (kpS l cur) x ++ tkT (kpS l cur) e) by rw [tkT, tkT], tkO, if_pos hq2, hq2.1, hq2.2]
    have e1 : tkT (kpS l cur) .nil = [(2, [], [], [])] := by
     unfold Ob.nil tkT
     exact if_pos rfl
    have e2 : (tkO (kpS l cur) quoteO).length = 1 := by
     show (tkO (kpS l cur) (.sym _ _)).length = 1
     rw [tkO]
     rfl
    rw [e1]
    simp only [List.length_append, List.length_cons, List.length_nil, e2]
    omega
theorem tkO_le : ∀ o : Ob, (tkO (kpS l cur) o).length ≤ (tkT (kpS l cur) o).length + 1
 | .num q => by simp [tkT, tkO]
 | .str q => by simp [tkT, tkO]
 | .sym p m => by
  unfold tkT tkO
  split <;> simp
 | .cons a d => by
  cases hq : isQU a d with
  | false =>
   rw [tkO_listU hq, show tkT (kpS l cur) (.cons a d) = tkO (kpS l cur) a ++ tkT (kpS l cur) d by rw [tkT]]
   simp
  | true =>
   cases d with
   | num q => cases hq
   | str q => cases hq
   | sym p m => cases hq
   | cons x e =>
    have hq2 : a = quoteO ∧ e = .nil := by simpa [isQU] using hq
    rw [show tkT (kpS l cur) (.cons a (.cons x e)) = tkO (kpS l cur) a ++ (tkO (kpS l cur) x ++ tkT (kpS l cur) e) by rw [tkT, tkT], tkO, if_pos hq2]
    simp only [List.length_append, List.length_cons]
    omega
theorem prT_le (hl : LpOk l cur) (o : Ob) : (prT (nmU l cur) o).length ≤ (prO (nmU l cur) o).length + 40 := by
 cases o with
 | num q => rw [prT_atom _ rfl]; split <;> (simp; try omega)
 | str q => rw [prT_atom _ rfl]; split <;> (simp; try omega)
 | sym p m => rw [prT_atom _ rfl]; split <;> (simp; try omega)
 | cons a d =>
  have e1 : prT (nmU l cur) (.cons a d) = 32 :: (prO (nmU l cur) a ++ prT (nmU l cur) d) := rfl
  rw [e1, prO_cons]
  split
  · rename_i hq
    cases d with
    | num q => cases hq
    | str q => cases hq
    | sym p m => cases hq
    | cons x e =>
     have hq2 : a = quoteO ∧ e = .nil := by simpa [isQU] using hq
     have e2 : prT (nmU l cur) (.cons x e) = 32 :: (prO (nmU l cur) x ++ prT (nmU l cur) e) := rfl
     have e3 : prT (nmU l cur) .nil = [41] := by rw [prT_atom _ rfl, if_pos rfl]
     have := hl.ql
     rw [e2, hq2.1, hq2.2, e3]
     simp only [List.length_cons, List.length_append, List.length_nil]
     show _ ≤ (prO (nmU l cur) x).length + 1 + 40
     omega
  · simp
theorem prO_le (hl : LpOk l cur) (o : Ob) (h : o.isCons = true ∨ o = .nil) : (prO (nmU l cur) o).length ≤ (prT (nmU l cur) o).length + 26 := by
 rcases h with h | rfl
 · cases o with
   | num q => cases h
   | str q => cases h
   | sym p m => cases h
   | cons a d =>
    have e1 : prT (nmU l cur) (.cons a d) = 32 :: (prO (nmU l cur) a ++ prT (nmU l cur) d) := rfl
    rw [e1, prO_cons]
    split
    · rename_i hq
      cases d with
      | num q => cases hq
      | str q => cases hq
      | sym p m => cases hq
      | cons x e =>
       have e2 : prT (nmU l cur) (.cons x e) = 32 :: (prO (nmU l cur) x ++ prT (nmU l cur) e) := rfl
       rw [e2]
       simp only [List.length_cons, List.length_append]
       omega
    · simp
 · have := hl.nl
   omega
theorem parse_gd (hl : LpOk l cur) : ∀ f : Nat,
 (∀ (d : Int) (ts : List Tk) (o : Ob) (r : List Tk), (∀ t ∈ ts, LfOk l cur t) → parF (symL l cur) numT' f d ts = .ok o r → ∃ cs, ts = cs ++ r ∧ Gd l cur o cs) ∧
 (∀ (d : Int) (acc : List Ob) (ts : List Tk) (o : Ob) (r : List Tk), (∀ t ∈ ts, LfOk l cur t) → lisF (symL l cur) numT' f d acc ts = .ok o r → ∃ cs X, ts = cs ++ r ∧ o = consL acc X ∧ GdT l cur X cs ∧ (acc = [] → X.isCons = true ∨ X = .nil))
 | 0 => ⟨fun d ts o r _ h => by simp [parF] at h, fun d acc ts o r _ h => by simp [lisF] at h⟩
 | f + 1 => by
  obtain ⟨ihp, ihl⟩ := parse_gd hl f
  refine ⟨fun d ts o r hT h => ?_, fun d acc ts o r hT h => ?_⟩
  · cases ts with
    | nil => simp [parF] at h
    | cons t ts =>
     have ht := hT t (by simp)
     rw [parF] at h
     by_cases k0 : t.k = 0
     · rw [if_pos k0] at h; cases h
     rw [if_neg k0] at h
     by_cases k5 : t.k = 5
     · rw [if_pos k5] at h
       injection h with h1 h2
       subst h1 h2
       obtain ⟨g1, g2⟩ := ht.num k5
       exact ⟨[t], rfl, g1, by simp [tkO], by simp [Ob.nodes], by show (numS (numT' t)).length + 4 ≤ wtT t + 0; omega⟩
     rw [if_neg k5] at h
     by_cases k6 : t.k = 6
     · rw [if_pos k6] at h
       by_cases ke : (symL l cur t).2 = 0
       · rw [if_pos ke] at h
         injection h with h1 h2
         subst h1 h2
         obtain ⟨g1, g2⟩ := ht.sym k6 ke
         exact ⟨[t], rfl, g1, by simp [tkO], by simp [Ob.nodes], by show (nmU l cur _ _).length + 4 ≤ wtT t + 0; omega⟩
       · rw [if_neg ke] at h; cases h
     rw [if_neg k6] at h
     by_cases k7 : t.k = 7
     · rw [if_pos k7] at h
       injection h with h1 h2
       subst h1 h2
       obtain ⟨g1, g2⟩ := ht.str k7
       exact ⟨[t], rfl, g1, by simp [tkO], by simp [Ob.nodes], by show (escL 34 t.txt).length + 4 ≤ wtT t + 0; omega⟩
     rw [if_neg k7] at h
     by_cases k23 : t.k = 2 ∨ t.k = 3
     · rw [if_pos k23] at h; cases h
     rw [if_neg k23] at h
     by_cases kd : 200 < d
     · rw [if_pos kd] at h; cases h
     rw [if_neg kd] at h
     have hw : 32 ≤ wtT t := by unfold wtT; omega
     have hTs : ∀ u ∈ ts, LfOk l cur u := fun u hu => hT u (List.mem_cons_of_mem _ hu)
     by_cases k4 : t.k = 4
     · rw [if_pos k4] at h
       cases hp : parF (symL l cur) numT' f (d + 1) ts with
       | ok x r' =>
        rw [hp] at h
        injection h with h1 h2
        subst h1 h2
        obtain ⟨cs, e, g⟩ := ihp (d + 1) ts x _ hTs hp
        have e1 : isQU quoteO (.cons x .nil) = true := by simp [isQU]
        have e2 : prO (nmU l cur) (.cons quoteO (.cons x .nil)) = 39 :: prO (nmU l cur) x := by rw [prO_cons, e1, if_pos rfl]
        have e3 : tkO (kpS l cur) (.cons quoteO (.cons x .nil)) = (4, [], [], []) :: tkO (kpS l cur) x := by rw [tkO, if_pos ⟨rfl, rfl⟩]
        have g1 := g.tk
        have g2 := g.nd
        have g3 := g.tx
        have e4 : (Ob.cons quoteO (.cons x .nil)).nodes = 4 + x.nodes := by simp [Ob.nodes, quoteO, Ob.nil]; omega
        refine ⟨t :: cs, by rw [e]; rfl, ⟨hl.q, g.ok, hl.n⟩, by rw [e3]; simpa using g1, by rw [e4]; simp only [List.length_cons]; omega, ?_⟩
        rw [e2]
        show (prO (nmU l cur) x).length + 1 + 4 ≤ wtT t + wtS cs
        omega
       | bad x y => rw [hp] at h; cases h
       | out => rw [hp] at h; cases h
     · rw [if_neg k4] at h
       obtain ⟨cs, X, e, eo, g, gc⟩ := ihl (d + 1) [] ts o r hTs h
       have eo2 : o = X := eo
       subst eo2
       have g1 := g.tk
       have g2 := g.nd
       have g3 := g.tx
       have t1 := tkO_le (l := l) (cur := cur) o
       have t2 := prO_le hl o (gc rfl)
       refine ⟨t :: cs, by rw [e]; rfl, g.ok, by simp only [List.length_cons]; omega, by simp only [List.length_cons]; omega, ?_⟩
       show _ ≤ wtT t + wtS cs
       omega
  · cases ts with
    | nil => simp [lisF] at h
    | cons t ts =>
     have hTs : ∀ u ∈ ts, LfOk l cur u := fun u hu => hT u (List.mem_cons_of_mem _ hu)
     have hw : 32 ≤ wtT t := by unfold wtT; omega
     rw [lisF] at h
     by_cases k2 : t.k = 2
     · rw [if_pos k2] at h
       injection h with h1 h2
       subst h1 h2
       have e1 : tkT (kpS l cur) .nil = [(2, [], [], [])] := by
        unfold Ob.nil tkT
        exact if_pos rfl
       have e3 : prT (nmU l cur) .nil = [41] := by rw [prT_atom _ rfl, if_pos rfl]
       exact ⟨[t], .nil, rfl, rfl, ⟨hl.n, by rw [e1]; simp, by simp [Ob.nodes, Ob.nil], by rw [e3]; show 1 ≤ wtT t + 0; omega⟩, fun _ => .inr rfl⟩
     rw [if_neg k2] at h
     by_cases k3 : t.k = 3 ∧ acc ≠ []
     · rw [if_pos k3] at h
       cases hp : parF (symL l cur) numT' f d ts with
       | ok x r' =>
        rw [hp] at h
        cases r' with
        | nil => cases h
        | cons u r'' =>
         simp only at h
         by_cases ku : u.k = 2
         · rw [if_pos ku] at h
           injection h with h1 h2
           subst h1 h2
           obtain ⟨cs, e, g⟩ := ihp d ts x _ hTs hp
           have g1 := g.tk
           have g2 := g.nd
           have g3 := g.tx
           have t1 := tkT_le (l := l) (cur := cur) x
           have t2 := prT_le hl x
           refine ⟨t :: (cs ++ [u]), x, by rw [e]; simp, rfl, ⟨g.ok, ?_, ?_, ?_⟩, fun h0 => absurd h0 k3.2⟩
           · simp only [List.length_cons, List.length_append, List.length_nil]; omega
           · simp only [List.length_cons, List.length_append, List.length_nil]; omega
           · show _ ≤ wtT t + wtS (cs ++ [u])
             have hu : 32 ≤ wtS [u] := by show 32 ≤ wtT u + 0; unfold wtT; omega
             rw [wtS_app]
             omega
         · rw [if_neg ku] at h
           split at h <;> cases h
       | bad x y => rw [hp] at h; cases h
       | out => rw [hp] at h; cases h
     · rw [if_neg k3] at h
       cases hp : parF (symL l cur) numT' f d (t :: ts) with
       | ok x r' =>
        rw [hp] at h
        obtain ⟨cs, e, g⟩ := ihp d (t :: ts) x r' hT hp
        obtain ⟨cs', X, e', eo, g', _⟩ := ihl d (acc ++ [x]) r' o r (fun u hu => hT u (by rw [e]; exact List.mem_append_right _ hu)) h
        have g1 := g.tk
        have g2 := g.nd
        have g3 := g.tx
        have h1 := g'.tk
        have h2 := g'.nd
        have h3 := g'.tx
        have hpos : 1 ≤ cs.length := by
         have := tkO_pos (kpS l cur) x
         omega
        have en : (Ob.cons x X).nodes = 1 + x.nodes + X.nodes := rfl
        refine ⟨cs ++ cs', .cons x X, by rw [e, e', List.append_assoc], by rw [eo, consL_snoc], ⟨⟨g.ok, g'.ok⟩, ?_, ?_, ?_⟩, fun _ => .inl rfl⟩
        · rw [show tkT (kpS l cur) (.cons x X) = tkO (kpS l cur) x ++ tkT (kpS l cur) X by rw [tkT], List.length_append, List.length_append]
          omega
        · rw [en, List.length_append]
          omega
        · have e1 : prT (nmU l cur) (.cons x X) = 32 :: (prO (nmU l cur) x ++ prT (nmU l cur) X) := rfl
          rw [e1, wtS_app]
          simp only [List.length_cons, List.length_append]
          omega
       | bad x y => rw [hp] at h; cases h
       | out => rw [hp] at h; cases h
end
theorem encL_w (n : Nat) (m : UInt8) : ∀ (l acc a r : List UInt8), encL n m acc l = .ok a r → a.length + r.length ≤ acc.length + l.length
 | [], acc, a, r, h => by simp [encL] at h
 | [c], acc, a, r, h => by
  rw [encL] at h
  split at h
  · simp at h; simp [← h.1, ← h.2]
  · split at h
    · simp at h
    · simp [encL] at h
 | c :: d :: l', acc, a, r, h => by
  rw [encL] at h
  simp only [List.length_cons]
  split at h
  · simp at h; simp [← h.1, ← h.2]
  · split at h
    · split at h
      · have := encL_w n m l' _ _ _ h
        simp only [List.length_append, List.length_cons, List.length_nil] at this
        omega
      · simp at h
    · have := encL_w n m (d :: l') _ _ _ h
      simp only [List.length_append, List.length_cons, List.length_nil] at this
      omega
theorem word_split (l : List UInt8) : (wordL l).length + (restL l).length = l.length := by
 have := List.takeWhile_append_dropWhile (p := conB) (l := l)
 have h2 := congrArg List.length this
 rw [List.length_append] at h2
 exact h2
theorem decL_lenW (l : List UInt8) (h : l ≠ []) : (decL l).length ≤ l.length := by
 unfold decL
 split
 · cases l with
   | nil => exact absurd rfl h
   | cons c l => simp
 · rename_i hd
   exact (List.dropWhile_sublist _).length_le
/-- What a token is like. -/
structure TkI (t : Tk) : Prop where
 num : t.k = 5 → ∃ q : Rat, t.txt = LA (nt q) ∧ t.den = LA (dt q) ∧ NumOk q
 str : t.k = 7 → t.txt.length ≤ 200
 sym : t.k = 6 → t.txt ≠ [] ∧ t.txt.length ≤ 40 ∧ (t.pkg = [] ∨ okP t.pkg = true)
theorem symT_i {p : Int} {pkg name r : List UInt8} {t : Tk} {r' : List UInt8} (h : symT okP p pkg name r = .ok t r') : TkI t ∧ t.txt = name ∧ t.den = [] := by
 have hk := symT_k okP h
 unfold symT at h
 split at h
 · simp at h
 split at h
 · simp at h
 split at h
 · simp at h
 rename_i h1 h2 h3
 subst hk
 refine ⟨⟨fun h => by simp at h, fun h => by simp at h, fun _ => ⟨h2, by show name.length ≤ 40; omega, ?_⟩⟩, rfl, rfl⟩
 by_cases hp : pkg = []
 · exact .inl hp
 · right
   cases ho : okP pkg with
   | true => rfl
   | false => exact absurd ⟨hp, ho⟩ h3
theorem bare_i (k p : Int) (hk : k ≠ 5 ∧ k ≠ 6 ∧ k ≠ 7) : TkI ⟨k, p, [], [], []⟩ := ⟨fun h => absurd h hk.1, fun h => absurd h hk.2.2, fun h => absurd h hk.2.1⟩
theorem numL_w {w : List UInt8} {b : Bool} {x y : List UInt8} (h : numL w = some (b, x, y)) : x ≠ [] ∧ y ≠ [] ∧ x.length ≤ w.length ∧ y.length ≤ w.length + 1 := by
 unfold numL at h
 split at h
 · rename_i hd
   simp only [Option.some.injEq, Prod.mk.injEq] at h
   obtain ⟨_, rfl, rfl⟩ := h
   simp only [Bool.and_eq_true, isDigL, Bool.not_eq_true', List.isEmpty_eq_false_iff] at hd
   have ha : (afterM w).length ≤ w.length := by
    unfold afterM
    split
    · simp
    · exact Nat.le_refl _
   refine ⟨hd.1.1, hd.2.1, ?_, ?_⟩
   · unfold cutL
     split
     · exact Nat.le_trans (List.takeWhile_sublist _).length_le ha
     · exact ha
   · unfold cutL
     split
     · have h1 := (List.dropWhile_sublist (l := afterM w) (· != 47)).length_le
       simp only [List.length_tail]
       omega
     · simp
 · cases h
theorem numP_w (b : Bool) (x y : List UInt8) (k : Nat) (hx : x.length ≤ k) (hy : y.length ≤ k + 1) : (numP b x y).1.length + (numP b x y).2.length ≤ 2 * k + 10 := by
 have hn : (negS b x).length ≤ k + 3 := by
  unfold negS
  split
  · have := text_length (x := -val x) (k := max 1 x.length) (by rw [Int.natAbs_neg, val_natAbs]; exact mag_lt x)
    omega
  · omega
 have hb : Bd (k + 3) (numQ b x y) := bd_quo (l := negS b x) (m := y) hn (by omega) (by omega)
 have h1 := bd_nt hb
 have h2 := bd_dt hb
 have e1 : (LA (nt (numQ b x y))).length = (nt (numQ b x y)).size := la_length _
 have e2 : (LA (dt (numQ b x y))).length = (dt (numQ b x y)).size := la_length _
 show (LA (nt (numQ b x y))).length + (LA (dt (numQ b x y))).length ≤ _
 omega
theorem one_w {n : Nat} {c : UInt8} {l : List UInt8} {t : Tk} {r : List UInt8} (h : oneL okP numP sizP n c l = .ok t r) : TkI t ∧ t.txt.length + t.den.length + 2 * r.length ≤ 2 * (l.length + 1) + 10 := by
 have hle := oneL_le okP numP sizP h
 unfold oneL at h
 split at h
 · simp at h; rw [← h.1]; exact ⟨bare_i _ _ (by decide), by simp; omega⟩
 split at h
 · simp at h; rw [← h.1]; exact ⟨bare_i _ _ (by decide), by simp; omega⟩
 split at h
 · simp at h; rw [← h.1]; exact ⟨bare_i _ _ (by decide), by simp; omega⟩
 split at h
 · split at h
   · simp at h
   · rename_i he
     have hw := encL_w _ _ _ _ _ _ he
     simp only [List.length_nil] at hw
     split at h
     · simp at h
     · rename_i hb
       simp at h
       obtain ⟨h1, h2⟩ := h
       subst h1 h2
       refine ⟨⟨fun h => by simp at h, fun _ => by show _ ≤ 200; simp; omega, fun h => by simp at h⟩, ?_⟩
       simp
       omega
 split at h
 · split at h
   · simp at h
   · rename_i he
     have hw := encL_w _ _ _ _ _ _ he
     simp only [List.length_nil] at hw
     have hr := symT_r okP h
     obtain ⟨h1, h2, h3⟩ := symT_i h
     refine ⟨h1, ?_⟩
     rw [h2, h3, hr]
     simp
     omega
 split at h
 · have hsp := word_split (c :: l)
   simp only [List.length_cons] at hsp
   unfold wordT at h
   split at h
   · rename_i r' hw
     rw [hw] at hsp
     simp only [List.length_cons] at hsp
     split at h
     · simp at h
     · rename_i bb rr hn
       have hr := symT_r okP h
       obtain ⟨h1, h2, h3⟩ := symT_i h
       refine ⟨h1, ?_⟩
       have hnw : bb.length + rr.length ≤ r'.length := by
        cases r' with
        | nil => simp [nameL] at hn
        | cons e r'' =>
         rw [nameL] at hn
         split at hn
         · have := encL_w _ _ _ _ _ _ hn
           simp only [List.length_nil, List.length_cons] at this ⊢
           omega
         · split at hn
           · simp at hn
             have := word_split (e :: r'')
             rw [← hn.1, ← hn.2]
             omega
           · simp at hn
       rw [h2, h3, hr]
       simp
       omega
   · split at h
     · simp at h; rw [← h.1]; exact ⟨bare_i _ _ (by decide), by simp; omega⟩
     · split at h
       · rename_i b x y hnum
         obtain ⟨k1, k2, k3⟩ := numT_k numP sizP h
         have hr := numT_r numP sizP h
         obtain ⟨x0, y0, hx, hy⟩ := numL_w hnum
         have hx2 := decL_lenW x x0
         have hy2 := decL_lenW y y0
         have hw := numP_w b (decL x) (decL y) (wordL (c :: l)).length (by omega) (by omega)
         rw [k1] at k2 k3 ⊢
         refine ⟨⟨fun _ => ⟨numQ b (decL x) (decL y), rfl, rfl, k2, k3⟩, fun h => by simp at h, fun h => by simp at h⟩, ?_⟩
         rw [hr]
         show (numP b (decL x) (decL y)).1.length + (numP b (decL x) (decL y)).2.length + _ ≤ _
         omega
       · have hr := symT_r okP h
         obtain ⟨h1, h2, h3⟩ := symT_i h
         refine ⟨h1, ?_⟩
         rw [h2, h3, hr]
         simp
         omega
 · simp at h
theorem toks_w (n : Nat) : ∀ (f : Nat) (l : List UInt8) (ts : List Tk), toksF okP numP sizP n f l = .ok ts → (∀ t ∈ ts, TkI t) ∧ wtS ts ≤ 4 * l.length + 52 * ts.length
 | 0, l, ts, h => by simp [toksF] at h
 | f + 1, l, ts, h => by
  rw [toksF] at h
  split at h
  · simp at h
  · simp at h
    subst h
    refine ⟨fun t ht => ?_, by simp [wtS, wtT]⟩
    rw [List.mem_singleton] at ht
    subst ht
    exact bare_i _ _ (by decide)
  · rename_i c l' hs
    have h1 := skipL_le hs
    simp only [List.length_cons] at h1
    split at h
    · simp at h
    · rename_i t r ho
      obtain ⟨g1, g2⟩ := one_w ho
      split at h
      · rename_i us hu
        simp at h
        subst h
        obtain ⟨g3, g4⟩ := toks_w n f r us hu
        refine ⟨fun u hu => ?_, ?_⟩
        · rcases List.mem_cons.1 hu with rfl | hu
          · exact g1
          · exact g3 u hu
        · have e : wtS (t :: us) = wtT t + wtS us := rfl
          rw [e]
          unfold wtT
          simp only [List.length_cons]
          omega
      · simp at h


end Go.Proofs.YtlocnkobancjmaaGreatDoor
