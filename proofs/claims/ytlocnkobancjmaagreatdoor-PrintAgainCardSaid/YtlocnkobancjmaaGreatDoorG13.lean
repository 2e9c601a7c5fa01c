import Derived.Test.YtlocnkobancjmaaGreatDoorAl
import Derived.Test.YtlocnkobancjmaaGreatDoorG11
import Derived.Test.YtlocnkobancjmaaGreatDoorG12
import Derived.Test.YtlocnkobancjmaaGreatDoorSh0
import Derived.Test.YtlocnkobancjmaaGreatDoorG7
import Derived.Lib.AppendStr
import Derived.Shelf.Strings.SlTrimAscii
import Derived.Laws.RangeAny
import Derived.Laws.Runes
namespace Go.Proofs.YtlocnkobancjmaaGreatDoor
open Go Go.RowKit
set_option linter.unusedVariables false
set_option maxHeartbeats 32000000
set_option maxRecDepth 100000
structure But (g : Nat) (w w' : World) : Prop where
 os : w'.os = w.os
 tape : w'.tape = w.tape
 output : w'.output = w.output
 size : w.heap.size ≤ w'.heap.size
 block : ∀ k, k < w.heap.size → k ≠ g → w'.heap[k]? = w.heap[k]?
theorem But.refl (g : Nat) (w : World) : But g w w := ⟨rfl, rfl, rfl, Nat.le_refl _, fun _ _ _ => rfl⟩
theorem But.trans {g : Nat} {a b c : World} (h : But g a b) (k : But g b c) : But g a c :=
 ⟨k.os.trans h.os, k.tape.trans h.tape, k.output.trans h.output, Nat.le_trans h.size k.size, fun i hi hg => (k.block i (Nat.lt_of_lt_of_le hi h.size) hg).trans (h.block i hi hg)⟩
theorem But.of {g : Nat} {a b : World} (h : Below a.heap.size a b) : But g a b := ⟨h.os, h.tape, h.output, h.size, fun i hi _ => h.block i hi⟩
theorem But.drewN {g : Nat} (w : World) (n : Nat) : But g w (w.drewN n) := ⟨rfl, rfl, rfl, Nat.le_refl _, fun _ _ _ => rfl⟩
theorem But.below {g B : Nat} {a b : World} (h : But g a b) (hB : B ≤ g) (hs : B ≤ a.heap.size) : Below B a b := ⟨h.os, h.tape, h.output, h.size, fun i hi => h.block i (by omega) (by omega)⟩
theorem But.set {g : Nat} (w : World) (i : Nat) (v : Value) : But g w (w.setCell ⟨g, i, none⟩ v) := ⟨rfl, rfl, rfl, by simp [World.setCell], fun k _ hk => Below.heap_setCell w ⟨g, i, none⟩ v k hk⟩
def errV (e p : Int) : Value := .iface 30 (.agg #[.int .i64 e, .int .i64 p])
def PanS (w : World) (g : Nat) (x p : Int) (e : Ending) (w' : World) : Prop := e = .panicked [{ v := errV x p, recovered := false }] ∧ But g w w'
def Scn (w : World) (g : Nat) (s : ByteArray) (i : Nat) : Prop := w.heap[g]? = some (.cells #[.string s, .int .i64 (i : Int)] 212 (0, 0))
theorem Scn.lt {w : World} {g : Nat} {s : ByteArray} {i : Nat} (h : Scn w g s i) : g < w.heap.size := Sy.blk_ltY h
theorem Scn.c0 {w : World} {g : Nat} {s : ByteArray} {i : Nat} (h : Scn w g s i) : w.cell? ⟨g, 0, none⟩ = some (.string s) := by rw [cell_of_row _ _ _ _ _ _ h]; rfl
theorem Scn.c1 {w : World} {g : Nat} {s : ByteArray} {i : Nat} (h : Scn w g s i) : w.cell? ⟨g, 1, none⟩ = some (.int .i64 (i : Int)) := by rw [cell_of_row _ _ _ _ _ _ h]; rfl
theorem Scn.fr {w : World} {g : Nat} {s : ByteArray} {i : Nat} (h : Scn w g s i) : w.frozen? ⟨g, 1, none⟩ = false := by
 unfold Scn at h
 simp [World.frozen?, h]
theorem Scn.of {w w' : World} {g : Nat} {s : ByteArray} {i : Nat} (h : Scn w g s i) (hb : Below w.heap.size w w') : Scn w' g s i := (hb.block g h.lt).trans h
theorem Scn.drewN {w : World} {g : Nat} {s : ByteArray} {i : Nat} (h : Scn w g s i) (n : Nat) : Scn (w.drewN n) g s i := h
theorem Scn.set {w : World} {g : Nat} {s : ByteArray} {i : Nat} (h : Scn w g s i) (x : Int) (j : Nat) (hx : x = (j : Int)) : Scn (w.setCell ⟨g, 1, none⟩ (.int .i64 x)) g s j := by
 unfold Scn at h ⊢
 subst hx
 simp [World.setCell, Array.getElem?_modify, h]
def Ret5 (w : World) (g : Nat) (s : ByteArray) (j : Nat) (v : Value) (e : Ending) (w' : World) : Prop := e = .returned v ∧ Scn w' g s j ∧ But g w w'
def RetR5 (w : World) (g : Nat) (s : ByteArray) (r : List UInt8) (v : Value) (e : Ending) (w' : World) : Prop := ∃ j, j ≤ s.size ∧ (LA s).drop j = r ∧ Ret5 w g s j v e w'
def posW (g : Nat) (w : World) : Nat := match w.cell? ⟨g, 1, none⟩ with
 | some (.int _ x) => x.toNat
 | _ => 0
theorem Scn.posW {w : World} {g : Nat} {s : ByteArray} {i : Nat} (h : Scn w g s i) : posW g w = i := by unfold Proofs.YtlocnkobancjmaaGreatDoor.posW; rw [h.c1]; rfl
theorem drewN2 (w : World) (n m : Nat) : (w.drewN n).drewN m = w.drewN (n + m) := by simp [World.drewN, Nat.add_assoc]
theorem la_length (s : ByteArray) : (LA s).length = s.size := by unfold LA; rw [Array.length_toList]; rfl
theorem la_drop {s : ByteArray} {i : Nat} (hi : i < s.size) : (LA s).drop i = s[i] :: (LA s).drop (i + 1) := Sy.bl_drop hi
theorem la_end {s : ByteArray} {i : Nat} (hi : s.size ≤ i) : (LA s).drop i = [] := List.drop_eq_nil_of_le (by rw [la_length]; exact hi)
theorem la_extract {s : ByteArray} {i : Nat} (hi : i ≤ s.size) : (s.extract i s.size).data.toList = (LA s).drop i := by
 unfold LA
 rw [ByteArray.data_extract]
 simp
 exact List.take_of_length_le (by rw [List.length_drop, Array.length_toList]; exact Nat.le_refl _)
theorem posL_drop (s : ByteArray) {i : Nat} (hi : i ≤ s.size) : posL s.size ((LA s).drop i) = (i : Int) := by unfold posL; rw [List.length_drop, la_length]; omega
theorem reportP (x p : Int) (w : World) (g : Nat) : Calls Tryz.prog 69 #[.int .i64 x, .int .i64 p] w (PanS w g x p) := by
 go_enter Tryz.func69, Tryz.ntmps69
 go_wp2_with fail
 exact ⟨rfl, rfl, But.refl _ _⟩
theorem endedP (w : World) (g : Nat) (s : ByteArray) (i : Nat) (h : Scn w g s i) : Calls Tryz.prog 157 #[.pointer (some ⟨g, 0, none⟩)] w (Sy.QuietY w (.bool ((i : Int) == (s.size : Int)))) := by
 have c0 := h.c0
 have c1 := h.c1
 clear h
 go_enter Tryz.func157, Tryz.ntmps157
 go_wp2_with fail
 go_quiet (fail)
 go_wp2
 go_ret
 exact ⟨rfl, _, rfl⟩
theorem peekP (w : World) (g : Nat) (s : ByteArray) (i : Nat) (h : Scn w g s i) (hi : i < s.size) : Calls Tryz.prog 207 #[.pointer (some ⟨g, 0, none⟩)] w (Sy.QuietY w (.int .u8 ((s[i]'hi).toNat : Int))) := by
 have HS := qh9 h
 have ht : ((i : Int) == (s.size : Int)) = false := by rw [beq_eq_false_iff_ne]; omega
 clear h
 go_enter Tryz.func207, Tryz.ntmps207
 go_wp2_with fail
 refine (endedP w g s i HS.out).mono ?_
 rintro e w1 ⟨rfl, n, rfl⟩
 rw [ht]
 have c0 := (HS.out.drewN n).c0
 have c1 := (HS.out.drewN n).c1
 have hi2 : 0 ≤ (i : Int) ∧ (i : Int) < (s.size : Int) := by omega
 generalize hw : w.drewN n = w1 at c0 c1 ⊢
 have HW := qh9 hw
 clear hw
 go_wp2_with fail
 go_quiet (fail)
 go_wp2
 go_ret
 exact ⟨rfl, n + nq, by rw [← HW.out, drewN2]⟩
theorem peekEnd (w : World) (g : Nat) (s : ByteArray) (h : Scn w g s s.size) : Calls Tryz.prog 207 #[.pointer (some ⟨g, 0, none⟩)] w (PanS w g 11 s.size) := by
 have HS := qh9 h
 have ht : ((s.size : Int) == (s.size : Int)) = true := by rw [beq_self_eq_true]
 clear h
 go_enter Tryz.func207, Tryz.ntmps207
 go_wp2_with fail
 refine (endedP w g s _ HS.out).mono ?_
 rintro e w1 ⟨rfl, n, rfl⟩
 rw [ht]
 have c1 := (HS.out.drewN n).c1
 generalize hw : w.drewN n = w1 at c1 ⊢
 have HW := qh9 hw
 clear hw
 go_wp2_with fail
 refine (reportP 11 _ _ g).mono ?_
 rintro e w2 ⟨rfl, hb⟩
 exact ⟨rfl, rfl, (HW.out ▸ But.drewN w n : But g w w1).trans hb⟩
theorem atP (w : World) (g : Nat) (s : ByteArray) (i : Nat) (h : Scn w g s i) (hi : i ≤ s.size) (p : ByteArray) (b : Bool) (hb : Lib.hasPrefix ((LA s).drop i) (LA p) = b) :
 Calls Tryz.prog 208 #[.pointer (some ⟨g, 0, none⟩), .string p] w (Sy.QuietY w (.bool b)) := by
 have c0 := h.c0
 have c1 := h.c1
 have hi2 : (0 ≤ (i : Int) ∧ (i : Int) ≤ (s.size : Int)) := by omega
 have C : Hid (∀ m, Calls Tryz.prog 238 #[.string (s.extract i s.size), .string p] (w.drewN m) (Sy.QuietY (w.drewN m) (.bool b))) := fun m =>
  (Tryz.strings_HasPrefix _ _ _).mono fun e w' ⟨h1, h2⟩ => ⟨by rw [h1, la_extract hi]; exact congrArg (fun x => Ending.returned (.bool x)) hb, 0, h2⟩
 clear h hb
 go_enter Tryz.func208, Tryz.ntmps208
 go_wp2_with fail
 go_quiet ((go_at_call 238; exact Calls.quiet_of (C.out _)))
 go_wp2
 go_ret
 exact ⟨rfl, nq, rfl⟩
theorem isBlankP (x : Int) (b : Bool) (h : (x == 32 || x == 9 || x == 10 || x == 13) = b) (w : World) : Calls Tryz.prog 206 #[.int .u8 x] w fun e w' => e = .returned (.bool b) ∧ w = w' := by
 by_cases h1 : x = 32
 · subst h1
   simp at h
   subst h
   go_enter Tryz.func206, Tryz.ntmps206
   go_wp2
   go_ret
   exact ⟨rfl, rfl⟩
 · have e1 : (x == 32) = false := beq_eq_false_iff_ne.2 h1
   by_cases h2 : x = 9
   · subst h2
     simp at h
     subst h
     go_enter Tryz.func206, Tryz.ntmps206
     go_wp2
     go_ret
     exact ⟨rfl, rfl⟩
   · have e2 : (x == 9) = false := beq_eq_false_iff_ne.2 h2
     by_cases h3 : x = 10
     · subst h3
       simp at h
       subst h
       go_enter Tryz.func206, Tryz.ntmps206
       go_wp2
       go_ret
       exact ⟨rfl, rfl⟩
     · have e3 : (x == 10) = false := beq_eq_false_iff_ne.2 h3
       rw [e1, e2, e3] at h
       clear h1 h2 h3
       cases e4 : (x == 13) with
       | false =>
        rw [e4] at h
        simp at h
        subst h
        go_enter Tryz.func206, Tryz.ntmps206
        go_wp2
        go_ret
        exact ⟨rfl, rfl⟩
       | true =>
        rw [e4] at h
        simp at h
        subst h
        go_enter Tryz.func206, Tryz.ntmps206
        go_wp2
        go_ret
        exact ⟨rfl, rfl⟩
theorem conB_no (c : UInt8) : conB c = (decide (32 < (c.toNat : Int)) && (decide ((c.toNat : Int) ≤ 126) && decide (Lib.indexByte [40, 41, 39, 34, 59, 124, 58] c < 0))) := by
 have h : ((List.range 256).all fun n => conB (UInt8.ofNat n) == (decide (32 < ((UInt8.ofNat n).toNat : Int)) && (decide (((UInt8.ofNat n).toNat : Int) ≤ 126) && decide (Lib.indexByte [40, 41, 39, 34, 59, 124, 58] (UInt8.ofNat n) < 0)))) = true := by kernel_rfl
 have := List.all_eq_true.1 h c.toNat (List.mem_range.2 c.toNat_lt)
 rw [UInt8.ofNat_toNat] at this
 exact eq_of_beq this
theorem isConP (c : UInt8) (w : World) : Calls Tryz.prog 215 #[.int .u8 (c.toNat : Int)] w fun e w' => e = .returned (.bool (conB c)) ∧ w = w' := by
 rw [conB_no]
 have e0 : ((c.toNat : Int)).toNat.toUInt8 = c := by simp
 by_cases h1 : 32 < (c.toNat : Int)
 · rw [decide_eq_true h1]
   by_cases h2 : (c.toNat : Int) ≤ 126
   · rw [decide_eq_true h2]
     go_enter Tryz.func215, Tryz.ntmps215
     go_wp2_with fail
     refine (Tryz.strings_IndexByte _ _ _).mono ?_
     rintro e w' ⟨rfl, rfl⟩
     go_wp2
     go_ret
     refine ⟨?_, rfl⟩
     rw [Bool.true_and, Bool.true_and]
     rfl
   · rw [decide_eq_false h2]
     go_enter Tryz.func215, Tryz.ntmps215
     go_wp2
     go_ret
     exact ⟨rfl, rfl⟩
 · rw [decide_eq_false h1]
   go_enter Tryz.func215, Tryz.ntmps215
   go_wp2
   go_ret
   exact ⟨rfl, rfl⟩
theorem pre1 (c d : UInt8) (l : List UInt8) : Lib.hasPrefix (c :: l) [d] = (d == c) := by
 show ((d == c) && true) = _
 rw [Bool.and_true]
theorem pre2_one (x c d : UInt8) : Lib.hasPrefix [x] [c, d] = false := by
 show ((c == x) && false) = _
 rw [Bool.and_false]
theorem pre2 (x y c d : UInt8) (l : List UInt8) : Lib.hasPrefix (x :: y :: l) [c, d] = ((c == x) && (d == y)) := by
 show ((c == x) && ((d == y) && true)) = _
 rw [Bool.and_true]
theorem la_cases (s : ByteArray) {i : Nat} (hi : i ≤ s.size) : (i = s.size ∧ (LA s).drop i = []) ∨ (∃ h : i < s.size, (LA s).drop i = s[i] :: (LA s).drop (i + 1)) := by
 rcases Nat.lt_or_ge i s.size with h | h
 · exact .inr ⟨h, la_drop h⟩
 · exact .inl ⟨by omega, la_end h⟩
def ScW (w wr : World) (g : Nat) (s : ByteArray) (i : Nat) : Prop := Scn wr g s i ∧ But g w wr
theorem ScW.q {w wr w1 : World} {g : Nat} {s : ByteArray} {i : Nat} (h : ScW w wr g s i) (hq : ∃ n, w1 = wr.drewN n) : ScW w w1 g s i := by
 obtain ⟨n, rfl⟩ := hq
 exact ⟨h.1.drewN n, h.2.trans (But.drewN wr n)⟩
theorem ScW.set {w wr : World} {g : Nat} {s : ByteArray} {i : Nat} (h : ScW w wr g s i) (x : Int) (j : Nat) (hx : Value.int .i64 x = .int .i64 (j : Int)) : ScW w (wr.setCell ⟨g, 1, none⟩ (.int .i64 x)) g s j := by
 injection hx with _ hx
 exact ⟨h.1.set x j hx, h.2.trans (But.set wr 1 _)⟩
theorem ScW.start {w : World} {g : Nat} {s : ByteArray} {i : Nat} (h : Scn w g s i) : ScW w w g s i := ⟨h, But.refl _ _⟩
theorem eq_no {i n : Nat} (h : i < n) : ((i : Int) == (n : Int)) = false := by rw [beq_eq_false_iff_ne]; omega
theorem eq_yes (n : Nat) : ((n : Int) == (n : Int)) = true := beq_self_eq_true _
theorem skipLineP (w : World) (g : Nat) (s : ByteArray) (i : Nat) (h : Scn w g s i) (hi : i ≤ s.size) (hs : s.size ≤ 6000) :
 Calls Tryz.prog 209 #[.pointer (some ⟨g, 0, none⟩)] w (RetR5 w g s (lineL ((LA s).drop i)) (.tuple #[])) := by
 obtain ⟨R, hR⟩ : ∃ R, lineL ((LA s).drop i) = R := ⟨_, rfl⟩
 rw [hR]
 have H0 : Hid (ScW w w g s i ∧ lineL ((LA s).drop i) = R) := ⟨⟨h, But.refl _ _⟩, hR⟩
 clear h hR
 go_enter Tryz.func209, Tryz.ntmps209
 go_wp2_with fail
 go_loopw [] (fun wr => ∃ (i : Nat), i ≤ s.size ∧ Hid (ScW w wr g s i ∧ lineL ((LA s).drop i) = R)) (fun wr => s.size - posW g wr)
 case atStart => exact ⟨i, hi, H0⟩
 case round =>
  clear H0
  obtain ⟨j, hj, hE⟩ := hrel
  obtain ⟨wo, rfl⟩ : ∃ wo : World, wo = wr := ⟨_, rfl⟩
  obtain ⟨hE, hR⟩ := hE.out
  have hp := hE.1.posW
  rcases la_cases s hj with ⟨rfl, hl⟩ | ⟨hlt, hl⟩
  · rw [hl] at hR
    have HE := qh9 hE
    have HR := qh9 hR
    have HL := qh9 hl
    clear hE hR hl hp
    go_wp2_with fail
    refine (endedP wo g s _ HE.out.1).mono ?_
    rintro e w1 ⟨rfl, hq⟩
    rw [eq_yes]
    replace HE := qh9 (HE.out.q hq)
    clear hq
    go_wp2
    go_end0
    exact ⟨s.size, hj, HL.out.trans HR.out, rfl, HE.out.1, HE.out.2⟩
  · have hne := eq_no hlt
    have hat := pre1 s[j] 10 ((LA s).drop (j + 1))
    rw [← hl] at hat
    have HA : Hid (Lib.hasPrefix ((LA s).drop j) (LA ⟨#[10]⟩) = ((10 : UInt8) == s[j])) := hat
    have HE := qh9 hE
    have HN := qh9 hne
    clear hE hne hat
    cases hb : ((10 : UInt8) == s[j]) with
    | true =>
     rw [hb] at HA
     have hd : s[j] = 10 := (eq_of_beq hb).symm
     rw [hl, lineL, if_pos hd, ← hl] at hR
     have HR := qh9 hR
     clear hR hl hd hb hp
     go_wp2_with fail
     refine (endedP wo g s _ HE.out.1).mono ?_
     rintro e w1 ⟨rfl, hq⟩
     rw [HN.out]
     replace HE := qh9 (HE.out.q hq)
     clear hq
     go_wp2_with fail
     refine (atP w1 g s _ HE.out.1 hj _ _ HA.out).mono ?_
     rintro e w2 ⟨rfl, hq⟩
     replace HE := qh9 (HE.out.q hq)
     clear hq
     go_wp2
     go_end0
     exact ⟨j, hj, HR.out, rfl, HE.out.1, HE.out.2⟩
    | false =>
     rw [hb] at HA
     have hd : ¬ s[j] = 10 := fun h => by rw [h] at hb; simp at hb
     rw [hl, lineL, if_neg hd] at hR
     have HR := qh9 hR
     have HP := qh9 hp
     clear hR hl hd hb hp
     go_wp2_with fail
     refine (endedP wo g s _ HE.out.1).mono ?_
     rintro e w1 ⟨rfl, hq⟩
     rw [HN.out]
     replace HE := qh9 (HE.out.q hq)
     clear hq
     go_wp2_with fail
     refine (atP w1 g s _ HE.out.1 hj _ _ HA.out).mono ?_
     rintro e w2 ⟨rfl, hq⟩
     replace HE := qh9 (HE.out.q hq)
     clear hq
     have c1 := HE.out.1.c1
     have cf := HE.out.1.fr
     go_wp2
     clear c1 cf
     go_roundw
     case rel => exact ⟨j + 1, hlt, HE.out.set _ _ (by go_num), HR.out⟩
     case measure =>
      rw [HP.out, (HE.out.set _ (j + 1) (by go_num)).1.posW]
      omega
def OutO (w : World) (g : Nat) (s : ByteArray) (R : Option (List UInt8)) (e : Ending) (w' : World) : Prop := match R with
 | some r => RetR5 w g s r (.tuple #[]) e w'
 | none => PanS w g 11 s.size e w'
theorem OutO.some_ {w : World} {g : Nat} {s : ByteArray} {R : Option (List UInt8)} {j : Nat} {wr : World} (hj : j ≤ s.size) (hR : some ((LA s).drop j) = R) (h : ScW w wr g s j) : OutO w g s R (.returned (.tuple #[])) wr := by
 subst hR
 exact ⟨j, hj, rfl, rfl, h.1, h.2⟩
theorem OutO.none_ {w wr w' : World} {g : Nat} {s : ByteArray} {R : Option (List UInt8)} {j : Nat} (hR : none = R) (h : ScW w wr g s j) (hb : But g wr w') : OutO w g s R (.panicked [{ v := errV 11 s.size, recovered := false }]) w' := by
 subst hR
 exact ⟨rfl, h.2.trans hb⟩
def NeW (w wr : World) (g : Nat) (s : ByteArray) (R : Option (List UInt8)) (i d : Nat) : Prop := ScW w wr g s i ∧ (d ≤ i ∧ nestL d ((LA s).drop i) = R)
theorem nest_zero (l : List UInt8) : nestL 0 l = some l := by cases l <;> rfl
theorem nest_nil (d : Nat) (h : 0 < d) : nestL d [] = none := by
 obtain ⟨k, rfl⟩ : ∃ k, d = k + 1 := ⟨d - 1, by omega⟩
 rfl
theorem nest_one (d : Nat) (h : 0 < d) (c : UInt8) : nestL d [c] = none := by
 obtain ⟨k, rfl⟩ : ∃ k, d = k + 1 := ⟨d - 1, by omega⟩
 rfl
theorem nest_cons (d : Nat) (h : 0 < d) (c e : UInt8) (l : List UInt8) : nestL d (c :: e :: l) = if c = 35 ∧ e = 124 then nestL (d + 1) l else if c = 124 ∧ e = 35 then nestL (d - 1) l else nestL d (e :: l) := by
 obtain ⟨k, rfl⟩ : ∃ k, d = k + 1 := ⟨d - 1, by omega⟩
 rfl
theorem two_no {x y c d : UInt8} (h : ¬ (x = c ∧ y = d)) : ((c == x) && (d == y)) = false := by
 cases h1 : (c == x)
 · rfl
 · cases h2 : (d == y)
   · rfl
   · exact absurd ⟨(eq_of_beq h1).symm, (eq_of_beq h2).symm⟩ h
theorem two_yes {x y c d : UInt8} (h : x = c ∧ y = d) : ((c == x) && (d == y)) = true := by rw [h.1, h.2, beq_self_eq_true, beq_self_eq_true]; rfl
theorem skipNestedP (w : World) (g : Nat) (s : ByteArray) (i : Nat) (h : Scn w g s i) (hi : i + 2 ≤ s.size) (hs : s.size ≤ 6000) :
 Calls Tryz.prog 210 #[.pointer (some ⟨g, 0, none⟩)] w (OutO w g s (nestL 1 ((LA s).drop (i + 2)))) := by
 obtain ⟨R, hR⟩ : ∃ R, nestL 1 ((LA s).drop (i + 2)) = R := ⟨_, rfl⟩
 rw [hR]
 have HE := qh9 (ScW.start h)
 have HR := qh9 hR
 have c1 := h.c1
 have cf := h.fr
 clear h hR
 go_enter Tryz.func210, Tryz.ntmps210
 go_wp2_with fail
 clear c1 cf
 go_loopw [2] (fun v wr => ∃ (i d : Nat), i ≤ s.size ∧ v = .int .i64 d ∧ Hid (NeW w wr g s R i d)) (fun _ wr => s.size + 1 - posW g wr)
 case atStart => exact ⟨i + 2, 1, hi, rfl, HE.out.set _ _ (by go_num), by omega, HR.out⟩
 case round =>
  clear HE HR
  obtain ⟨j, d, hj, rfl, hE⟩ := hrel
  obtain ⟨wo, rfl⟩ : ∃ wo : World, wo = wr := ⟨_, rfl⟩
  obtain ⟨hE, hd, hR⟩ := hE.out
  have HP := qh9 hE.1.posW
  have HE := qh9 hE
  clear hE
  by_cases h0 : (0 : Int) < (d : Int)
  · have hd0 : 0 < d := by omega
    rcases la_cases s hj with ⟨rfl, hl⟩ | ⟨hlt, hl⟩
    · have HA1 : Hid (Lib.hasPrefix ((LA s).drop s.size) (LA ⟨#[35, 124]⟩) = false) := by show _ = _; rw [hl]; rfl
      have HA2 : Hid (Lib.hasPrefix ((LA s).drop s.size) (LA ⟨#[124, 35]⟩) = false) := by show _ = _; rw [hl]; rfl
      rw [hl, nest_nil d hd0] at hR
      have HR := qh9 hR
      clear hR hl
      go_wp2_with fail
      refine (atP wo g s _ HE.out.1 hj _ _ HA1.out).mono ?_
      rintro e w1 ⟨rfl, hq⟩
      replace HE := qh9 (HE.out.q hq)
      clear hq
      go_wp2_with fail
      refine (atP w1 g s _ HE.out.1 hj _ _ HA2.out).mono ?_
      rintro e w2 ⟨rfl, hq⟩
      replace HE := qh9 (HE.out.q hq)
      clear hq
      go_wp2_with fail
      refine (peekEnd w2 g s HE.out.1).mono ?_
      rintro e w3 ⟨rfl, hb⟩
      exact ⟨rfl, OutO.none_ HR.out HE.out hb⟩
    · rcases la_cases s (show j + 1 ≤ s.size from hlt) with ⟨hend, hl2⟩ | ⟨hlt2, hl2⟩
      · rw [hl, hl2, nest_one d hd0] at hR
        have HR2 : Hid (nestL d ((LA s).drop (j + 1)) = R) := by show _ = _; rw [hl2, nest_nil d hd0]; exact hR
        have HA1 : Hid (Lib.hasPrefix ((LA s).drop j) (LA ⟨#[35, 124]⟩) = false) := by show _ = _; rw [hl, hl2]; exact pre2_one _ _ _
        have HA2 : Hid (Lib.hasPrefix ((LA s).drop j) (LA ⟨#[124, 35]⟩) = false) := by show _ = _; rw [hl, hl2]; exact pre2_one _ _ _
        clear hR hl hl2 hend
        go_wp2_with fail
        refine (atP wo g s _ HE.out.1 hj _ _ HA1.out).mono ?_
        rintro e w1 ⟨rfl, hq⟩
        replace HE := qh9 (HE.out.q hq)
        clear hq
        go_wp2_with fail
        refine (atP w1 g s _ HE.out.1 hj _ _ HA2.out).mono ?_
        rintro e w2 ⟨rfl, hq⟩
        replace HE := qh9 (HE.out.q hq)
        clear hq
        go_wp2_with fail
        refine (peekP w2 g s j HE.out.1 hlt).mono ?_
        rintro e w3 ⟨rfl, hq⟩
        replace HE := qh9 (HE.out.q hq)
        clear hq
        have c1 := HE.out.1.c1
        have cf := HE.out.1.fr
        go_wp2
        clear c1 cf
        go_roundw
        case rel => exact ⟨j + 1, d, hlt, rfl, HE.out.set _ _ (by go_num), by omega, HR2.out⟩
        case measure =>
         rw [HP.out, (HE.out.set _ (j + 1) (by go_num)).1.posW]
         omega
      · rw [hl, hl2, nest_cons d hd0] at hR
        have hp1 : Lib.hasPrefix ((LA s).drop j) (LA ⟨#[35, 124]⟩) = (((35 : UInt8) == s[j]) && ((124 : UInt8) == s[j + 1])) := by rw [hl, hl2]; exact pre2 _ _ _ _ _
        have hp2 : Lib.hasPrefix ((LA s).drop j) (LA ⟨#[124, 35]⟩) = (((124 : UInt8) == s[j]) && ((35 : UInt8) == s[j + 1])) := by rw [hl, hl2]; exact pre2 _ _ _ _ _
        by_cases h1 : s[j] = 35 ∧ s[j + 1] = 124
        · rw [two_yes h1] at hp1
          rw [if_pos h1] at hR
          have HA1 := qh9 hp1
          have HR := qh9 hR
          clear hp1 hp2 hR hl hl2 h1
          go_wp2_with fail
          refine (atP wo g s _ HE.out.1 hj _ _ HA1.out).mono ?_
          rintro e w1 ⟨rfl, hq⟩
          replace HE := qh9 (HE.out.q hq)
          clear hq
          have c1 := HE.out.1.c1
          have cf := HE.out.1.fr
          go_wp2
          clear c1 cf
          go_roundw
          case rel => exact ⟨j + 2, d + 1, by omega, by go_num, HE.out.set _ _ (by go_num), by omega, HR.out⟩
          case measure =>
           rw [HP.out, (HE.out.set _ (j + 2) (by go_num)).1.posW]
           omega
        · rw [two_no h1] at hp1
          rw [if_neg h1] at hR
          have HA1 := qh9 hp1
          by_cases h2 : s[j] = 124 ∧ s[j + 1] = 35
          · rw [two_yes h2] at hp2
            rw [if_pos h2] at hR
            have HA2 := qh9 hp2
            have HR := qh9 hR
            clear hp1 hp2 hR hl hl2 h1 h2
            go_wp2_with fail
            refine (atP wo g s _ HE.out.1 hj _ _ HA1.out).mono ?_
            rintro e w1 ⟨rfl, hq⟩
            replace HE := qh9 (HE.out.q hq)
            clear hq
            go_wp2_with fail
            refine (atP w1 g s _ HE.out.1 hj _ _ HA2.out).mono ?_
            rintro e w2 ⟨rfl, hq⟩
            replace HE := qh9 (HE.out.q hq)
            clear hq
            have c1 := HE.out.1.c1
            have cf := HE.out.1.fr
            go_wp2
            clear c1 cf
            go_roundw
            case rel => exact ⟨j + 2, d - 1, by omega, by go_num, HE.out.set _ _ (by go_num), by omega, HR.out⟩
            case measure =>
             rw [HP.out, (HE.out.set _ (j + 2) (by go_num)).1.posW]
             omega
          · rw [two_no h2] at hp2
            rw [if_neg h2, ← hl2] at hR
            have HA2 := qh9 hp2
            have HR := qh9 hR
            clear hp1 hp2 hR hl hl2 h1 h2
            go_wp2_with fail
            refine (atP wo g s _ HE.out.1 hj _ _ HA1.out).mono ?_
            rintro e w1 ⟨rfl, hq⟩
            replace HE := qh9 (HE.out.q hq)
            clear hq
            go_wp2_with fail
            refine (atP w1 g s _ HE.out.1 hj _ _ HA2.out).mono ?_
            rintro e w2 ⟨rfl, hq⟩
            replace HE := qh9 (HE.out.q hq)
            clear hq
            go_wp2_with fail
            refine (peekP w2 g s j HE.out.1 hlt).mono ?_
            rintro e w3 ⟨rfl, hq⟩
            replace HE := qh9 (HE.out.q hq)
            clear hq
            have c1 := HE.out.1.c1
            have cf := HE.out.1.fr
            go_wp2
            clear c1 cf
            go_roundw
            case rel => exact ⟨j + 1, d, hlt, rfl, HE.out.set _ _ (by go_num), by omega, HR.out⟩
            case measure =>
             rw [HP.out, (HE.out.set _ (j + 1) (by go_num)).1.posW]
             omega
  · have hd0 : d = 0 := by omega
    subst hd0
    rw [nest_zero] at hR
    have HR := qh9 hR
    clear hR
    go_wp2
    go_end0
    exact OutO.some_ hj HR.out HE.out
theorem blank_eq (c : UInt8) : ((c.toNat : Int) == 32 || (c.toNat : Int) == 9 || (c.toNat : Int) == 10 || (c.toNat : Int) == 13) = blankB c := by
 have h : ((List.range 256).all fun n => (((UInt8.ofNat n).toNat : Int) == 32 || ((UInt8.ofNat n).toNat : Int) == 9 || ((UInt8.ofNat n).toNat : Int) == 10 || ((UInt8.ofNat n).toNat : Int) == 13) == blankB (UInt8.ofNat n)) = true := by kernel_rfl
 have := List.all_eq_true.1 h c.toNat (List.mem_range.2 c.toNat_lt)
 rw [UInt8.ofNat_toNat] at this
 exact eq_of_beq this
theorem blankP (c : UInt8) (w : World) : Calls Tryz.prog 206 #[.int .u8 (c.toNat : Int)] w fun e w' => e = .returned (.bool (blankB c)) ∧ w = w' := isBlankP _ _ (blank_eq c) w
theorem len_drop {s : ByteArray} {j : Nat} {r : List UInt8} (hj : j ≤ s.size) (h : (LA s).drop j = r) : j = s.size - r.length := by
 have := congrArg List.length h
 rw [List.length_drop, la_length] at this
 omega
def SkW (w wr : World) (g : Nat) (s : ByteArray) (R : Option (List UInt8)) (i : Nat) : Prop := ScW w wr g s i ∧ skipL ((LA s).drop i) = R
theorem skipP (w : World) (g : Nat) (s : ByteArray) (i : Nat) (h : Scn w g s i) (hi : i ≤ s.size) (hs : s.size ≤ 6000) :
 Calls Tryz.prog 156 #[.pointer (some ⟨g, 0, none⟩)] w (OutO w g s (skipL ((LA s).drop i))) := by
 obtain ⟨R, hR⟩ : ∃ R, skipL ((LA s).drop i) = R := ⟨_, rfl⟩
 rw [hR]
 have H0 : Hid (SkW w w g s R i) := ⟨ScW.start h, hR⟩
 clear h hR
 go_enter Tryz.func156, Tryz.ntmps156
 go_wp2_with fail
 go_loopw [] (fun wr => ∃ (i : Nat), i ≤ s.size ∧ Hid (SkW w wr g s R i)) (fun wr => s.size + 1 - posW g wr)
 case atStart => exact ⟨i, hi, H0⟩
 case round =>
  clear H0
  obtain ⟨j, hj, hE⟩ := hrel
  obtain ⟨wo, rfl⟩ : ∃ wo : World, wo = wr := ⟨_, rfl⟩
  obtain ⟨hE, hR⟩ := hE.out
  have HP := qh9 hE.1.posW
  have HE := qh9 hE
  clear hE
  rcases la_cases s hj with ⟨rfl, hl⟩ | ⟨hlt, hl⟩
  · rw [hl, skipL_nil, ← hl] at hR
    have HR := qh9 hR
    clear hR hl
    go_wp2_with fail
    refine (endedP wo g s _ HE.out.1).mono ?_
    rintro e w1 ⟨rfl, hq⟩
    rw [eq_yes]
    replace HE := qh9 (HE.out.q hq)
    clear hq
    go_wp2
    go_end0
    exact OutO.some_ hj HR.out HE.out
  · have HN := qh9 (eq_no hlt)
    rw [hl, skipL_cons] at hR
    cases hb : blankB s[j] with
    | true =>
     rw [if_pos hb] at hR
     have HR := qh9 hR
     have HB := qh9 hb
     clear hR hl hb
     go_wp2_with fail
     refine (endedP wo g s _ HE.out.1).mono ?_
     rintro e w1 ⟨rfl, hq⟩
     rw [HN.out]
     replace HE := qh9 (HE.out.q hq)
     clear hq
     go_wp2_with fail
     refine (peekP w1 g s j HE.out.1 hlt).mono ?_
     rintro e w2 ⟨rfl, hq⟩
     replace HE := qh9 (HE.out.q hq)
     clear hq
     go_wp2_with fail
     refine (blankP s[j] w2).mono ?_
     rintro e w0 ⟨rfl, rfl⟩
     rw [HB.out]
     have c1 := HE.out.1.c1
     have cf := HE.out.1.fr
     go_wp2
     clear c1 cf
     go_roundw
     case rel => exact ⟨j + 1, hlt, HE.out.set _ _ (by go_num), HR.out⟩
     case measure =>
      rw [HP.out, (HE.out.set _ (j + 1) (by go_num)).1.posW]
      omega
    | false =>
     rw [if_neg (by rw [hb]; simp)] at hR
     have HB := qh9 hb
     clear hb
     have hp1 : Lib.hasPrefix ((LA s).drop j) (LA ⟨#[59]⟩) = ((59 : UInt8) == s[j]) := by rw [hl]; exact pre1 _ _ _
     by_cases h1 : s[j] = 59
     · rw [if_pos h1] at hR
       rw [h1, beq_self_eq_true] at hp1
       have HA1 := qh9 hp1
       have hln : lineL ((LA s).drop j) = lineL ((LA s).drop (j + 1)) := by rw [hl, lineL, if_neg (by rw [h1]; decide)]
       have hle := lineL_le ((LA s).drop (j + 1))
       rw [← hln] at hR hle
       rw [List.length_drop, la_length] at hle
       have HR := qh9 hR
       have HLE := qh9 hle
       clear hR hl h1 hp1 hln hle
       go_wp2_with fail
       refine (endedP wo g s _ HE.out.1).mono ?_
       rintro e w1 ⟨rfl, hq⟩
       rw [HN.out]
       replace HE := qh9 (HE.out.q hq)
       clear hq
       go_wp2_with fail
       refine (peekP w1 g s j HE.out.1 hlt).mono ?_
       rintro e w2 ⟨rfl, hq⟩
       replace HE := qh9 (HE.out.q hq)
       clear hq
       go_wp2_with fail
       refine (blankP s[j] w2).mono ?_
       rintro e w0 ⟨rfl, rfl⟩
       rw [HB.out]
       go_wp2_with fail
       refine (atP w2 g s _ HE.out.1 hj _ _ HA1.out).mono ?_
       rintro e w3 ⟨rfl, hq⟩
       replace HE := qh9 (HE.out.q hq)
       clear hq
       go_wp2_with fail
       refine (skipLineP w3 g s j HE.out.1 hj hs).mono ?_
       rintro e w4 ⟨j', hj', hr, rfl, hsc, hbt⟩
       have HD := qh9 (len_drop hj' hr)
       have HR2 : Hid (SkW w w4 g s R j') := ⟨⟨hsc, HE.out.2.trans hbt⟩, by rw [hr]; exact HR.out⟩
       clear hr hsc hbt
       go_wp2
       go_roundw
       case rel => exact ⟨j', hj', HR2⟩
       case measure =>
        rw [HP.out, HR2.out.1.1.posW]
        have := HD.out
        have := HLE.out
        omega
     · rw [if_neg h1] at hR
       rw [beq_eq_false_iff_ne.2 (fun h => h1 h.symm)] at hp1
       have HA1 := qh9 hp1
       clear hp1 h1
       rcases la_cases s (show j + 1 ≤ s.size from hlt) with ⟨hend, hl2⟩ | ⟨hlt2, hl2⟩
       · rw [hl2] at hR
         have HR : Hid (some ((LA s).drop j) = R) := by show _ = _; rw [hl, hl2]; exact hR
         have HA2 : Hid (Lib.hasPrefix ((LA s).drop j) (LA ⟨#[35, 124]⟩) = false) := by show _ = _; rw [hl, hl2]; exact pre2_one _ _ _
         clear hR hl hl2 hend
         go_wp2_with fail
         refine (endedP wo g s _ HE.out.1).mono ?_
         rintro e w1 ⟨rfl, hq⟩
         rw [HN.out]
         replace HE := qh9 (HE.out.q hq)
         clear hq
         go_wp2_with fail
         refine (peekP w1 g s j HE.out.1 hlt).mono ?_
         rintro e w2 ⟨rfl, hq⟩
         replace HE := qh9 (HE.out.q hq)
         clear hq
         go_wp2_with fail
         refine (blankP s[j] w2).mono ?_
         rintro e w0 ⟨rfl, rfl⟩
         rw [HB.out]
         go_wp2_with fail
         refine (atP w2 g s _ HE.out.1 hj _ _ HA1.out).mono ?_
         rintro e w3 ⟨rfl, hq⟩
         replace HE := qh9 (HE.out.q hq)
         clear hq
         go_wp2_with fail
         refine (atP w3 g s _ HE.out.1 hj _ _ HA2.out).mono ?_
         rintro e w4 ⟨rfl, hq⟩
         replace HE := qh9 (HE.out.q hq)
         clear hq
         go_wp2
         go_end0
         exact OutO.some_ hj HR.out HE.out
       · rw [hl2] at hR
         have hp2 : Lib.hasPrefix ((LA s).drop j) (LA ⟨#[35, 124]⟩) = (((35 : UInt8) == s[j]) && ((124 : UInt8) == s[j + 1])) := by rw [hl, hl2]; exact pre2 _ _ _ _ _
         by_cases h2 : s[j] = 35 ∧ s[j + 1] = 124
         · rw [two_yes h2] at hp2
           simp only [if_pos h2] at hR
           have HA2 := qh9 hp2
           have HR := qh9 hR
           clear hp2 hR hl hl2 h2
           go_wp2_with fail
           refine (endedP wo g s _ HE.out.1).mono ?_
           rintro e w1 ⟨rfl, hq⟩
           rw [HN.out]
           replace HE := qh9 (HE.out.q hq)
           clear hq
           go_wp2_with fail
           refine (peekP w1 g s j HE.out.1 hlt).mono ?_
           rintro e w2 ⟨rfl, hq⟩
           replace HE := qh9 (HE.out.q hq)
           clear hq
           go_wp2_with fail
           refine (blankP s[j] w2).mono ?_
           rintro e w0 ⟨rfl, rfl⟩
           rw [HB.out]
           go_wp2_with fail
           refine (atP w2 g s _ HE.out.1 hj _ _ HA1.out).mono ?_
           rintro e w3 ⟨rfl, hq⟩
           replace HE := qh9 (HE.out.q hq)
           clear hq
           go_wp2_with fail
           refine (atP w3 g s _ HE.out.1 hj _ _ HA2.out).mono ?_
           rintro e w4 ⟨rfl, hq⟩
           replace HE := qh9 (HE.out.q hq)
           clear hq
           go_wp2_with fail
           refine (skipNestedP w4 g s j HE.out.1 hlt2 hs).mono ?_
           cases hn : nestL 1 ((LA s).drop (j + 1 + 1)) with
           | none =>
            have HR2 : Hid (none = R) := by have := HR.out; rw [hn] at this; exact this
            clear hn
            rintro e w5 ⟨rfl, hbt⟩
            exact ⟨rfl, OutO.none_ HR2.out HE.out hbt⟩
           | some r =>
            have HR2 : Hid (skipL r = R) := by have := HR.out; rw [hn] at this; exact this
            have hle := nestL_le _ _ _ hn
            rw [List.length_drop, la_length] at hle
            have HLE := qh9 hle
            clear hn hle
            rintro e w5 ⟨j', hj', hr, rfl, hsc, hbt⟩
            have HD := qh9 (len_drop hj' hr)
            have HR3 : Hid (SkW w w5 g s R j') := ⟨⟨hsc, HE.out.2.trans hbt⟩, by rw [hr]; exact HR2.out⟩
            clear hr hsc hbt
            go_wp2
            go_roundw
            case rel => exact ⟨j', hj', HR3⟩
            case measure =>
             rw [HP.out, HR3.out.1.1.posW]
             have := HD.out
             have := HLE.out
             omega
         · rw [two_no h2] at hp2
           simp only [if_neg h2] at hR
           rw [← hl2, ← hl] at hR
           have HA2 := qh9 hp2
           have HR := qh9 hR
           clear hp2 hR hl hl2 h2
           go_wp2_with fail
           refine (endedP wo g s _ HE.out.1).mono ?_
           rintro e w1 ⟨rfl, hq⟩
           rw [HN.out]
           replace HE := qh9 (HE.out.q hq)
           clear hq
           go_wp2_with fail
           refine (peekP w1 g s j HE.out.1 hlt).mono ?_
           rintro e w2 ⟨rfl, hq⟩
           replace HE := qh9 (HE.out.q hq)
           clear hq
           go_wp2_with fail
           refine (blankP s[j] w2).mono ?_
           rintro e w0 ⟨rfl, rfl⟩
           rw [HB.out]
           go_wp2_with fail
           refine (atP w2 g s _ HE.out.1 hj _ _ HA1.out).mono ?_
           rintro e w3 ⟨rfl, hq⟩
           replace HE := qh9 (HE.out.q hq)
           clear hq
           go_wp2_with fail
           refine (atP w3 g s _ HE.out.1 hj _ _ HA2.out).mono ?_
           rintro e w4 ⟨rfl, hq⟩
           replace HE := qh9 (HE.out.q hq)
           clear hq
           go_wp2
           go_end0
           exact OutO.some_ hj HR.out HE.out
theorem encL_cons (n : Nat) (m : UInt8) (acc : List UInt8) (c : UInt8) (l : List UInt8) : encL n m acc (c :: l) = if c = m then .ok acc l else if c = 92 then
 (match l with
 | [] => .bad 11 n
 | d :: l' => if d = m ∨ d = 92 then encL n m (acc ++ [d]) l' else .bad 12 (posL n (c :: d :: l')))
 else encL n m (acc ++ [c]) l := by cases l <;> rfl
theorem cb_append5 (l m : List UInt8) : cb (l ++ m) = cb l ++ cb m := by unfold cb; rw [List.map_append]
structure Kp5 (B : Nat) (w w' : World) : Prop where
 bel : Below B w w'
 keep : ∀ k, k < w.heap.size → (∀ cur fr, w.heap[k]? ≠ some (.cells cur 5 fr)) → w'.heap[k]? = w.heap[k]?
theorem Kp5.trans {B : Nat} {a b c : World} (h : Kp5 B a b) (h' : Kp5 B b c) : Kp5 B a c :=
 ⟨h.bel.trans h'.bel, fun k hk hn => by
  have e := h.keep k hk hn
  exact (h'.keep k (Nat.lt_of_lt_of_le hk h.bel.size) (fun cur fr he => hn cur fr (e ▸ he))).trans e⟩
theorem Kp5.of {B : Nat} {a b : World} (h : Below a.heap.size a b) (hB : B ≤ a.heap.size) : Kp5 B a b := ⟨h.mono hB, fun k hk _ => h.block k hk⟩
theorem OwnB.grown5 {w w' : World} {B : Nat} {v : Value} {l : List UInt8} (h : OwnB w B v l) (hg : w.grownBy w' v.ownBlock) (hB : B ≤ w.heap.size) : Kp5 B w w' := by
 have hlt : ∀ k, v.ownBlock = some k → B ≤ k := fun k hk => (h.row.lt k hk).1
 refine ⟨(Below.refl B w).grown hg hB hlt, fun k hk hn => hg.block k hk ?_⟩
 intro e
 rcases h.2 with ⟨rfl, _⟩ | ⟨g, cap, cur, rfl, _, hh, _⟩
 · cases e
 · injection e with e
   exact hn cur (0, 0) (e ▸ hh)
theorem OwnB.kept5 {w w' : World} {B : Nat} {v : Value} {l : List UInt8} (h : OwnB w B v l) (hb : Below w.heap.size w w') : OwnB w' B v l := by
 refine ⟨h.1, ?_⟩
 rcases h.2 with hn | ⟨g, cap, cur, rfl, h1, hh, h2⟩
 · exact .inl hn
 · exact .inr ⟨g, cap, cur, rfl, h1, (hb.block g (Array.getElem?_eq_some_iff.1 hh).1).trans hh, h2⟩
theorem appByte5 {ops : Array Oper} {rest : List Oper} {o : Oper} {a : Act} {w : World} {Q : Exit → Act → World → Prop} (hgd : o.guard = none) (sl x : Operand)
 (ho : o.op = .call { callee := .builtin .append, args := #[sl, x], argTypes := #[100, 100] }) {B : Nat} {v : Value} {l : List UInt8} (hs : a.eval sl = v) (hown : OwnB w B v l) (b : UInt8) (g c : Nat) (hx : a.eval x = .slice (some ⟨g, 0, none⟩) 1 c)
 (hg : w.heap[g]? = some (.cells #[.int .u8 (b.toNat : Int)] 5 (0, 0))) (hl : l.length ≤ 1000000000000) (hB : B ≤ w.heap.size)
 (h : ∀ v' w', OwnB w' B v' (l ++ [b]) → Kp5 B w w' → wpList Tryz.prog ops Q rest (a.put o.dst v') w') : wpList Tryz.prog ops Q (o :: rest) a w := by
 obtain ⟨i0, hi, hz0, hz1, hz2⟩ := info_parts info8
 refine wpList_append_own w hgd sl x 100 ho B 5 i0 (.int .u8 0) 1 1 Tryz.underlying100 hi hz0 hz1 hz2 rfl (by decide) v l.length (cb l) hs hown.row ⟨g, 0, none⟩ 1 c [.int .u8 (b.toNat : Int)] hx rfl (fun j u hj => ?_) (fun u hu => ?_) (by unfold maxLen; omega) (by omega) hB ?_
 · match j, hj with
   | 0, hj =>
    simp at hj
    subst hj
    show w.cell? ⟨g, _, none⟩ = _
    rw [cell_of_row _ _ _ _ _ _ hg]
    rfl
 · simp at hu
   subst hu
   rfl
 · intro v' w' h1 h2 _
   have h3 : w'.ownsRow B 5 1 v' (l.length + 1) (cb (l ++ [b])) := by rw [cb_append5]; exact h1
   exact h v' w' (OwnB.of_cells h3) (hown.grown5 h2 hB)

theorem Scn.kp {w w' : World} {g B : Nat} {s : ByteArray} {i : Nat} (h : Scn w g s i) (hk : Kp5 B w w') : Scn w' g s i := (hk.keep g h.lt (fun cur fr e => by
 have h' := h
 unfold Scn at h'
 rw [h'] at e
 injection e with e
 injection e with _ e _
 exact absurd e (by decide))).trans h
theorem ScW.kp {w wr w1 : World} {g : Nat} {s : ByteArray} {i : Nat} (h : ScW w wr g s i) (hk : Kp5 w.heap.size wr w1) : ScW w w1 g s i :=
 ⟨h.1.kp hk, ⟨hk.bel.os.trans h.2.os, hk.bel.tape.trans h.2.tape, hk.bel.output.trans h.2.output, Nat.le_trans h.2.size hk.bel.size, fun k hk1 hk2 => (hk.bel.block k hk1).trans (h.2.block k hk1 hk2)⟩⟩
theorem OwnB.set5 {w : World} {B g : Nat} {v : Value} {l : List UInt8} (h : OwnB w B v l) (hg : g < B) (i : Nat) (u : Value) : OwnB (w.setCell ⟨g, i, none⟩ u) B v l :=
 ownsRow_setCell_below (a := ⟨g, i, none⟩) h.row hg u
theorem OwnB.but5 {w w' : World} {B g : Nat} {v : Value} {l : List UInt8} (h : OwnB w B v l) (hb : But g w w') (hB : B ≤ w.heap.size) (hg : g < B) : OwnB w' B v l := by
 refine ⟨h.1, ?_⟩
 rcases h.2 with hn | ⟨k, cap, cur, rfl, h1, hh, h2⟩
 · exact .inl hn
 · exact .inr ⟨k, cap, cur, rfl, h1, (hb.block k (Array.getElem?_eq_some_iff.1 hh).1 (by omega)).trans hh, h2⟩
theorem convOwn (w : World) (B : Nat) (v : Value) (l : List UInt8) (h : OwnB w B v l) : (convert 100 9 v).run Tryz.prog w = .ok (.string (BA l)) w := by
 by_cases hl : l = []
 · subst hl
   rcases h.2 with ⟨rfl, _⟩ | ⟨g, cap, cur, rfl, _⟩
   · rw [run_convert_bytes_string w 100 9 5 none 0 0 Tryz.underlying100 Tryz.underlying5 Tryz.underlying9]
     rfl
   · exact conv_back w g cap 0 B [] rfl h.row
 · obtain ⟨g, c, rfl⟩ := h.form hl
   exact conv_back w g c l.length B l rfl h.row
theorem skipEscapeP (w : World) (g : Nat) (s : ByteArray) (i : Nat) (m : UInt8) (h : Scn w g s i) (hs : s.size ≤ 6000) (hi : i + 1 < s.size) (hm : s[i + 1] = m ∨ s[i + 1] = 92) :
 Calls Tryz.prog 239 #[.pointer (some ⟨g, 0, none⟩), .int .u8 (m.toNat : Int)] w (Ret5 w g s (i + 1) (.tuple #[])) := by
 have HE := qh9 (ScW.start h)
 have c1 := h.c1
 have cf := h.fr
 clear h
 have hx : ((s[i + 1].toNat : Int) != (m.toNat : Int)) = false ∨ (((s[i + 1].toNat : Int) != (m.toNat : Int)) = true ∧ ((s[i + 1].toNat : Int) != 92) = false) := by
  by_cases h1 : s[i + 1] = m
  · left; rw [h1]; simp
  · right
    have h2 : s[i + 1] = 92 := hm.resolve_left h1
    refine ⟨?_, by rw [h2]; rfl⟩
    rw [bne_iff_ne]
    intro e
    exact h1 (UInt8.toNat_inj.1 (by omega))
 rcases hx with hx | ⟨hx, hy⟩
 all_goals
  go_enter Tryz.func239, Tryz.ntmps239
  go_wp2_with fail
  clear c1 cf
  replace HE := qh9 (HE.out.set ((i : Int) + 1) (i + 1) rfl)
  refine (peekP _ g s (i + 1) (HE.out.1) hi).mono ?_
  rintro e w1 ⟨rfl, hq⟩
  replace HE := qh9 (HE.out.q hq)
  clear hq
  go_wp2
  go_end0
  exact ⟨rfl, HE.out.1, HE.out.2⟩
theorem skipEscapeBad (w : World) (g : Nat) (s : ByteArray) (i : Nat) (m : UInt8) (h : Scn w g s i) (hs : s.size ≤ 6000) (hi : i + 1 < s.size) (hm : ¬ (s[i + 1] = m ∨ s[i + 1] = 92)) :
 Calls Tryz.prog 239 #[.pointer (some ⟨g, 0, none⟩), .int .u8 (m.toNat : Int)] w (PanS w g 12 i) := by
 have HE := qh9 (ScW.start h)
 have c1 := h.c1
 have cf := h.fr
 clear h
 have hx : ((s[i + 1].toNat : Int) != (m.toNat : Int)) = true := by
  rw [bne_iff_ne]
  intro e
  exact hm (.inl (UInt8.toNat_inj.1 (by omega)))
 have hy : ((s[i + 1].toNat : Int) != 92) = true := by
  rw [bne_iff_ne]
  intro e
  exact hm (.inr (UInt8.toNat_inj.1 (by show s[i + 1].toNat = 92; omega)))
 go_enter Tryz.func239, Tryz.ntmps239
 go_wp2_with fail
 clear c1 cf
 replace HE := qh9 (HE.out.set ((i : Int) + 1) (i + 1) rfl)
 refine (peekP _ g s (i + 1) (HE.out.1) hi).mono ?_
 rintro e w1 ⟨rfl, hq⟩
 replace HE := qh9 (HE.out.q hq)
 clear hq
 go_wp2_with fail
 refine (reportP 12 _ w1 g).mono ?_
 rintro e w2 ⟨rfl, hb⟩
 exact ⟨rfl, rfl, HE.out.2.trans hb⟩
theorem skipEscapeEnd (w : World) (g : Nat) (s : ByteArray) (i : Nat) (m : UInt8) (h : Scn w g s i) (hs : s.size ≤ 6000) (hi : i + 1 = s.size) :
 Calls Tryz.prog 239 #[.pointer (some ⟨g, 0, none⟩), .int .u8 (m.toNat : Int)] w (PanS w g 11 s.size) := by
 have HE := qh9 (ScW.start h)
 have c1 := h.c1
 have cf := h.fr
 clear h
 go_enter Tryz.func239, Tryz.ntmps239
 go_wp2_with fail
 clear c1 cf
 replace HE := qh9 (HE.out.set ((i : Int) + 1) (i + 1) rfl)
 rw [hi] at HE
 refine (peekEnd _ g s (HE.out.1)).mono ?_
 rintro e w2 ⟨rfl, hb⟩
 exact ⟨rfl, rfl, HE.out.2.trans hb⟩
def OutB (w : World) (g : Nat) (s : ByteArray) (R : Sc (List UInt8)) (e : Ending) (w' : World) : Prop := match R with
 | .ok b r => RetR5 w g s r (.string (BA b)) e w'
 | .bad x p => PanS w g x p e w'
theorem OutB.ok_ {w wr : World} {g : Nat} {s : ByteArray} {R : Sc (List UInt8)} {b : List UInt8} {j : Nat} (hj : j ≤ s.size) (hR : .ok b ((LA s).drop j) = R) (h : ScW w wr g s j) : OutB w g s R (.returned (.string (BA b))) wr := by
 subst hR
 exact ⟨j, hj, rfl, rfl, h.1, h.2⟩
theorem OutB.bad_ {w wr w' : World} {g : Nat} {s : ByteArray} {R : Sc (List UInt8)} {x p : Int} {j : Nat} (hR : .bad x p = R) (h : ScW w wr g s j) (hb : But g wr w') : OutB w g s R (.panicked [{ v := errV x p, recovered := false }]) w' := by
 subst hR
 exact ⟨rfl, h.2.trans hb⟩
def EnW (w wr : World) (g : Nat) (s : ByteArray) (m : UInt8) (R : Sc (List UInt8)) (i : Nat) (v : Value) (acc : List UInt8) : Prop :=
 ScW w wr g s i ∧ OwnB wr w.heap.size v acc ∧ encL s.size m acc ((LA s).drop i) = R ∧ acc.length ≤ i
theorem OwnB.q5 {w w1 : World} {B : Nat} {v : Value} {l : List UInt8} (h : OwnB w B v l) (hq : ∃ n, w1 = w.drewN n) : OwnB w1 B v l := by
 obtain ⟨n, rfl⟩ := hq
 exact h
theorem byte_ne {a b : UInt8} : ((a.toNat : Int) != (b.toNat : Int)) = (a != b) := by
 by_cases h : a = b
 · rw [h]; simp
 · have : (a.toNat : Int) ≠ (b.toNat : Int) := fun e => h (UInt8.toNat_inj.1 (by omega))
   rw [bne_iff_ne.2 this, bne_iff_ne.2 h]
theorem byte_eq {a b : UInt8} : ((a.toNat : Int) == (b.toNat : Int)) = (a == b) := by
 by_cases h : a = b
 · rw [h]; simp
 · have : (a.toNat : Int) ≠ (b.toNat : Int) := fun e => h (UInt8.toNat_inj.1 (by omega))
   rw [beq_eq_false_iff_ne.2 this, beq_eq_false_iff_ne.2 h]
theorem betweenP (w : World) (g : Nat) (s : ByteArray) (i : Nat) (m : UInt8) (h : Scn w g s i) (hi : i < s.size) (hs : s.size ≤ 6000) :
 Calls Tryz.prog 213 #[.pointer (some ⟨g, 0, none⟩), .int .u8 (m.toNat : Int)] w (OutB w g s (encL s.size m [] ((LA s).drop (i + 1)))) := by
 obtain ⟨R, hR⟩ : ∃ R, encL s.size m [] ((LA s).drop (i + 1)) = R := ⟨_, rfl⟩
 rw [hR]
 have HG := qh9 h.lt
 have HE := qh9 (ScW.start h)
 have HR := qh9 hR
 have c1 := h.c1
 have cf := h.fr
 clear h hR
 go_enter Tryz.func213, Tryz.ntmps213
 go_wp2_with fail
 clear c1 cf
 go_loopw [5] (fun v wr => ∃ (i : Nat) (acc : List UInt8) (sl : Value), i ≤ s.size ∧ sl = v ∧ Hid (EnW w wr g s m R i sl acc)) (fun _ wr => s.size + 1 - posW g wr)
 case atStart => exact ⟨i + 1, [], _, hi, rfl, HE.out.set _ _ (by go_num), OwnB.nil_ _ _, HR.out, Nat.zero_le _⟩
 case round =>
  clear HE HR
  obtain ⟨j, acc, sl, hj, rfl, hE⟩ := hrel
  obtain ⟨wo, rfl⟩ : ∃ wo : World, wo = wr := ⟨_, rfl⟩
  obtain ⟨hE, hO, hR, hacc⟩ := hE.out
  have HP := qh9 hE.1.posW
  have HE := qh9 hE
  have HO := qh9 hO
  clear hE hO
  rcases la_cases s hj with ⟨rfl, hl⟩ | ⟨hlt, hl⟩
  · rw [hl, encL] at hR
    have HR := qh9 hR
    clear hR hl
    go_wp2_with fail
    refine (peekEnd wo g s HE.out.1).mono ?_
    rintro e w3 ⟨rfl, hb⟩
    exact ⟨rfl, OutB.bad_ HR.out HE.out hb⟩
  · rw [hl, encL_cons] at hR
    by_cases h1 : s[j] = m
    · rw [if_pos h1] at hR
      have HR := qh9 hR
      have hx : ((s[j].toNat : Int) != (m.toNat : Int)) = false := by rw [byte_ne, h1]; simp
      clear hR hl h1
      go_wp2_with fail
      refine (peekP wo g s j HE.out.1 hlt).mono ?_
      rintro e w1 ⟨rfl, hq⟩
      replace HE := qh9 (HE.out.q hq)
      replace HO := qh9 (HO.out.q5 hq)
      clear hq
      have c1 := HE.out.1.c1
      have cf := HE.out.1.fr
      have hcv := convOwn _ _ _ _ (HO.out.set5 HG.out 1 (.int .i64 ((j : Int) + 1)))
      go_wp2
      go_ret
      exact OutB.ok_ hlt HR.out (HE.out.set _ (j + 1) (by go_num))
    · rw [if_neg h1] at hR
      have hx : ((s[j].toNat : Int) != (m.toNat : Int)) = true := by rw [byte_ne, bne_iff_ne]; exact h1
      by_cases h2 : s[j] = 92
      · rw [if_pos h2] at hR
        have hy : ((s[j].toNat : Int) == 92) = true := by rw [h2]; rfl
        rcases la_cases s (show j + 1 ≤ s.size from hlt) with ⟨hend, hl2⟩ | ⟨hlt2, hl2⟩
        · rw [hl2] at hR
          have HR : Hid (.bad 11 s.size = R) := hR
          clear hR hl hl2 h1 h2
          go_wp2_with fail
          refine (peekP wo g s j HE.out.1 hlt).mono ?_
          rintro e w1 ⟨rfl, hq⟩
          replace HE := qh9 (HE.out.q hq)
          replace HO := qh9 (HO.out.q5 hq)
          clear hq
          go_wp2_with fail
          refine (peekP w1 g s j HE.out.1 hlt).mono ?_
          rintro e w2 ⟨rfl, hq⟩
          replace HE := qh9 (HE.out.q hq)
          replace HO := qh9 (HO.out.q5 hq)
          clear hq
          go_wp2_with fail
          refine (skipEscapeEnd w2 g s j m HE.out.1 hs hend).mono ?_
          rintro e w3 ⟨rfl, hb⟩
          exact ⟨rfl, OutB.bad_ HR.out HE.out hb⟩
        · rw [hl2] at hR
          by_cases h3 : s[j + 1] = m ∨ s[j + 1] = 92
          · have HR : Hid (encL s.size m (acc ++ [s[j + 1]]) ((LA s).drop (j + 2)) = R) := by show _ = _; rw [← hR]; exact (if_pos h3).symm
            have H3 := qh9 h3
            clear hR hl hl2 h1 h2 h3
            go_wp2_with fail
            refine (peekP wo g s j HE.out.1 hlt).mono ?_
            rintro e w1 ⟨rfl, hq⟩
            replace HE := qh9 (HE.out.q hq)
            replace HO := qh9 (HO.out.q5 hq)
            clear hq
            go_wp2_with fail
            refine (peekP w1 g s j HE.out.1 hlt).mono ?_
            rintro e w2 ⟨rfl, hq⟩
            replace HE := qh9 (HE.out.q hq)
            replace HO := qh9 (HO.out.q5 hq)
            clear hq
            go_wp2_with fail
            refine (skipEscapeP w2 g s j m HE.out.1 hs hlt2 H3.out).mono ?_
            rintro e w3 ⟨rfl, hsc, hbt⟩
            have HO3 : Hid (OwnB w3 w.heap.size sl acc) := HO.out.but5 hbt (HE.out.2.size) HG.out
            replace HO := HO3
            replace HE : Hid (ScW w w3 g s (j + 1)) := ⟨hsc, HE.out.2.trans hbt⟩
            clear hsc hbt HO3
            go_wp2_with fail
            refine (peekP w3 g s (j + 1) HE.out.1 hlt2).mono ?_
            rintro e w4 ⟨rfl, hq⟩
            replace HE := qh9 (HE.out.q hq)
            replace HO := qh9 (HO.out.q5 hq)
            clear hq
            have hal := qh9 (show Below w4.heap.size w4 (w4.alloc (.cells #[.int .u8 (s[j + 1].toNat : Int)] 5)) from Below.alloc (Below.refl _ _) (Nat.le_refl _) _)
            have hnw := qh9 (heap_alloc_new w4 (.cells #[.int .u8 (s[j + 1].toNat : Int)] 5))
            have hob := qh9 (HO.out.kept5 hal.out)
            go_wp2_with (at_builtin; refine appByte5 rfl (.tmp 23) (.tmp 26) rfl rfl hob.out s[j + 1] w4.heap.size 1 rfl hnw.out (by omega) (Nat.le_trans HE.out.2.size hal.out.size) ?_)
            intro v3 x3 h3 j3
            have k3 := (Kp5.of hal.out HE.out.2.size).trans j3
            replace HE := qh9 (HE.out.kp k3)
            replace HO := qh9 h3
            clear k3 j3 h3 hal hnw hob
            have c1 := HE.out.1.c1
            have cf := HE.out.1.fr
            go_wp2
            clear c1 cf
            go_roundw
            case rel => exact ⟨j + 2, acc ++ [s[j + 1]], _, by omega, rfl, HE.out.set _ _ (by go_num), HO.out.set5 HG.out _ _, HR.out, by rw [List.length_append]; simp only [List.length_cons, List.length_nil]; omega⟩
            case measure =>
             rw [HP.out, (HE.out.set _ (j + 2) (by go_num)).1.posW]
             omega
          · have HR : Hid (.bad 12 (j : Int) = R) := by
             show _ = _
             rw [← hR, ← posL_drop s hj, hl, hl2]
             exact (if_neg h3).symm
            have H3 := qh9 h3
            clear hR hl hl2 h1 h2 h3
            go_wp2_with fail
            refine (peekP wo g s j HE.out.1 hlt).mono ?_
            rintro e w1 ⟨rfl, hq⟩
            replace HE := qh9 (HE.out.q hq)
            replace HO := qh9 (HO.out.q5 hq)
            clear hq
            go_wp2_with fail
            refine (peekP w1 g s j HE.out.1 hlt).mono ?_
            rintro e w2 ⟨rfl, hq⟩
            replace HE := qh9 (HE.out.q hq)
            replace HO := qh9 (HO.out.q5 hq)
            clear hq
            go_wp2_with fail
            refine (skipEscapeBad w2 g s j m HE.out.1 hs hlt2 H3.out).mono ?_
            rintro e w3 ⟨rfl, hb⟩
            exact ⟨rfl, OutB.bad_ HR.out HE.out hb⟩
      · rw [if_neg h2] at hR
        have hy : ((s[j].toNat : Int) == 92) = false := by rw [show (92 : Int) = ((92 : UInt8).toNat : Int) from rfl, byte_eq, beq_eq_false_iff_ne]; exact h2
        have HR := qh9 hR
        clear hR hl h1 h2
        go_wp2_with fail
        refine (peekP wo g s j HE.out.1 hlt).mono ?_
        rintro e w1 ⟨rfl, hq⟩
        replace HE := qh9 (HE.out.q hq)
        replace HO := qh9 (HO.out.q5 hq)
        clear hq
        go_wp2_with fail
        refine (peekP w1 g s j HE.out.1 hlt).mono ?_
        rintro e w2 ⟨rfl, hq⟩
        replace HE := qh9 (HE.out.q hq)
        replace HO := qh9 (HO.out.q5 hq)
        clear hq
        go_wp2_with fail
        refine (peekP w2 g s j HE.out.1 hlt).mono ?_
        rintro e w3 ⟨rfl, hq⟩
        replace HE := qh9 (HE.out.q hq)
        replace HO := qh9 (HO.out.q5 hq)
        clear hq
        have hal := qh9 (show Below w3.heap.size w3 (w3.alloc (.cells #[.int .u8 (s[j].toNat : Int)] 5)) from Below.alloc (Below.refl _ _) (Nat.le_refl _) _)
        have hnw := qh9 (heap_alloc_new w3 (.cells #[.int .u8 (s[j].toNat : Int)] 5))
        have hob := qh9 (HO.out.kept5 hal.out)
        go_wp2_with (at_builtin; refine appByte5 rfl (.tmp 23) (.tmp 26) rfl rfl hob.out s[j] w3.heap.size 1 rfl hnw.out (by omega) (Nat.le_trans HE.out.2.size hal.out.size) ?_)
        intro v3 x3 h3 j3
        have k3 := (Kp5.of hal.out HE.out.2.size).trans j3
        replace HE := qh9 (HE.out.kp k3)
        replace HO := qh9 h3
        clear k3 j3 h3 hal hnw hob
        have c1 := HE.out.1.c1
        have cf := HE.out.1.fr
        go_wp2
        clear c1 cf
        go_roundw
        case rel => exact ⟨j + 1, acc ++ [s[j]], _, by omega, rfl, HE.out.set _ _ (by go_num), HO.out.set5 HG.out _ _, HR.out, by rw [List.length_append]; simp only [List.length_cons, List.length_nil]; omega⟩
        case measure =>
         rw [HP.out, (HE.out.set _ (j + 1) (by go_num)).1.posW]
         omega
theorem cmpInt (x y : Int) (w : World) (h : x ≠ y) :
 Calls Tryz.prog 195 #[.int .i64 x, .int .i64 y] w fun e w' => e = .returned (.int .i64 (ordI x y)) ∧ w = w' := by
 rcases Int.lt_trichotomy x y with g | g | g
 · have ho := qh9 (ordI_lt g)
   go_enter Tryz.func195, Tryz.ntmps195
   go_wp2
   go_ret
   exact ⟨ret_int ho.out.symm, rfl⟩
 · exact absurd g h
 · have ho := qh9 (ordI_gt g)
   have g2 : ¬ x < y := by omega
   have e1 : (x == x) = true := by simp
   go_enter Tryz.func195, Tryz.ntmps195
   go_wp2
   go_ret
   exact ⟨ret_int ho.out.symm, rfl⟩

theorem cmpTexts (l l' : List UInt8) (s t : ByteArray) (w : World) (hs : Hid (LA s = body l)) (ht : Hid (LA t = body l')) (h1 : s.size ≤ 1000000000) (h2 : t.size ≤ 1000000000) :
 Calls Tryz.prog 284 #[.string s, .string t] w fun e w' => e = .returned (.int .i64 (ordN (mag l) (mag l'))) ∧ w = w' := by
 by_cases hl : s.size = t.size
 · have hl2 : (((s.size : Int)) == (t.size : Int)) = true := by rw [hl]; simp
   have hl3 : (((s.size : Int)) != (t.size : Int)) = false := by rw [hl]; simp
   have ho : Hid (Lib.compareBytes s.data.toList t.data.toList = ordN (mag l) (mag l')) := by
    show Lib.compareBytes (LA s) (LA t) = _
    rw [hs.out, ht.out]
    exact compare_bodies (by rw [← hs.out, ← ht.out, LA_length, LA_length, hl])
   clear hl
   go_enter Tryz.func284, Tryz.ntmps284
   go_wp2_with fail
   refine (Tryz.strings_Compare s t _).mono ?_
   rintro e w' ⟨rfl, rfl⟩
   rw [ho.out]
   go_wp2
   go_ret
   exact ⟨rfl, rfl⟩
 · have hl2 : (((s.size : Int)) == (t.size : Int)) = false := by rw [beq_eq_false_iff_ne]; omega
   have hl3 : (((s.size : Int)) != (t.size : Int)) = true := by rw [bne_iff_ne]; omega
   have ho : Hid (ordI s.size t.size = ordN (mag l) (mag l')) := by
    show _ = _
    rcases Nat.lt_or_ge s.size t.size with g | g
    · rw [ordI_lt (by omega), ordN_lt (mag_lt_of_len (by rw [← hs.out, ← ht.out, LA_length, LA_length]; exact g))]
    · rw [ordI_gt (by omega), ordN_gt (mag_lt_of_len (by rw [← hs.out, ← ht.out, LA_length, LA_length]; omega))]
   have hne : (s.size : Int) ≠ (t.size : Int) := by omega
   replace hne := qh9 hne
   clear hl
   go_enter Tryz.func284, Tryz.ntmps284
   go_wp2_with fail
   refine (cmpInt _ _ _ hne.out).mono ?_
   rintro e w' ⟨rfl, rfl⟩
   rw [ho.out]
   go_wp2
   go_ret
   exact ⟨rfl, rfl⟩

theorem compare_any (s t : ByteArray) (w : World) (hs : s.size ≤ 400000000) (ht : t.size ≤ 400000000) :
 Calls Tryz.prog 253 #[.string s, .string t] w fun e w' => e = .returned (.int .i64 (ordI (val (LA s)) (val (LA t)))) ∧ w = w' := by
 obtain ⟨x, hx⟩ : ∃ x, BA (body (LA s)) = x := ⟨_, rfl⟩
 obtain ⟨y, hy⟩ : ∃ y, BA (body (LA t)) = y := ⟨_, rfl⟩
 have bx : Hid (LA x = body (LA s)) := by show _ = _; rw [← hx]; rfl
 have bY : Hid (LA y = body (LA t)) := by show _ = _; rw [← hy]; rfl
 have sx : x.size ≤ 1000000000 := by have := body_length (LA s); rw [← LA_length, bx.out]; rw [LA_length] at this; omega
 have sy : y.size ≤ 1000000000 := by have := body_length (LA t); rw [← LA_length, bY.out]; rw [LA_length] at this; omega
 rw [val_eq, val_eq]
 have nx := @neg_mag (LA s)
 have ny := @neg_mag (LA t)
 have Hx := qh9 hx
 have Hy := qh9 hy
 clear hx hy
 cases hb : neg (LA s) <;> cases hb' : neg (LA t) <;> rw [hb] at nx <;> rw [hb'] at ny <;> have Hb := qh9 hb <;> have Hb' := qh9 hb' <;> clear hb hb' <;> (go_enter Tryz.func253, Tryz.ntmps253)
 · rw [ord_ff]
   clear nx ny
   go_wp2_with fail
   refine (split_any s _ (by unfold maxLen; omega)).mono ?_
   rintro e w' ⟨rfl, rfl⟩
   rw [Hx.out, Hb.out]
   go_wp2_with fail
   refine (split_any t _ (by unfold maxLen; omega)).mono ?_
   rintro e w' ⟨rfl, rfl⟩
   rw [Hy.out, Hb'.out]
   go_wp2_with fail
   refine (cmpTexts (LA s) (LA t) x y _ bx bY sx sy).mono ?_
   rintro e w' ⟨rfl, rfl⟩
   go_wp2
   go_ret
   exact ⟨rfl, rfl⟩
 · rw [ord_ft (ny rfl)]
   clear nx ny
   go_wp2_with fail
   refine (split_any s _ (by unfold maxLen; omega)).mono ?_
   rintro e w' ⟨rfl, rfl⟩
   rw [Hx.out, Hb.out]
   go_wp2_with fail
   refine (split_any t _ (by unfold maxLen; omega)).mono ?_
   rintro e w' ⟨rfl, rfl⟩
   rw [Hy.out, Hb'.out]
   go_wp2
   go_ret
   exact ⟨rfl, rfl⟩
 · rw [ord_tf (nx rfl)]
   clear nx ny
   go_wp2_with fail
   refine (split_any s _ (by unfold maxLen; omega)).mono ?_
   rintro e w' ⟨rfl, rfl⟩
   rw [Hx.out, Hb.out]
   go_wp2_with fail
   refine (split_any t _ (by unfold maxLen; omega)).mono ?_
   rintro e w' ⟨rfl, rfl⟩
   rw [Hy.out, Hb'.out]
   go_wp2
   go_ret
   exact ⟨rfl, rfl⟩
 · rw [ord_tt]
   clear nx ny
   go_wp2_with fail
   refine (split_any s _ (by unfold maxLen; omega)).mono ?_
   rintro e w' ⟨rfl, rfl⟩
   rw [Hx.out, Hb.out]
   go_wp2_with fail
   refine (split_any t _ (by unfold maxLen; omega)).mono ?_
   rintro e w' ⟨rfl, rfl⟩
   rw [Hy.out, Hb'.out]
   go_wp2_with fail
   refine (cmpTexts (LA t) (LA s) y x _ bY bx sy sx).mono ?_
   rintro e w' ⟨rfl, rfl⟩
   go_wp2
   go_ret
   exact ⟨rfl, rfl⟩

theorem digits_any (s : ByteArray) (w : World) (hs : s.size ≤ 400000000) :
 Calls Tryz.prog 277 #[.string s] w fun e w' => e = .returned (.int .i64 ((body (LA s)).length : Nat)) ∧ w = w' := by
 obtain ⟨x, hx⟩ : ∃ x, BA (body (LA s)) = x := ⟨_, rfl⟩
 have hl : Hid ((body (LA s)).length = x.size) := by show _ = _; rw [← hx]; rfl
 rw [hl.out]
 have Hx := qh9 hx
 clear hx
 go_enter Tryz.func277, Tryz.ntmps277
 go_wp2_with fail
 refine (split_any s _ (by unfold maxLen; omega)).mono ?_
 rintro e w' ⟨rfl, rfl⟩
 rw [Hx.out]
 go_wp2
 go_ret
 exact ⟨rfl, rfl⟩
def tkC (t : Tk) : Array Value := #[.int .i64 t.k, .int .i64 t.p, .string (BA t.pkg), .string (BA t.txt), .string (BA t.den)]
def tkV (t : Tk) : Value := .agg (tkC t)
def TB (W : World) (g : Nat) (c : Array Value) : Prop := W.heap[g]? = some (.cells c 157 (0, 0))
theorem TB.lt {W : World} {g : Nat} {c : Array Value} (h : TB W g c) : g < W.heap.size := Sy.blk_ltY h
theorem TB.keep {W W' : World} {g : Nat} {c : Array Value} (h : TB W g c) (hb : Below W.heap.size W W') : TB W' g c := (hb.block g h.lt).trans h
theorem TB.but {W W' : World} {g k : Nat} {c : Array Value} (h : TB W g c) (hb : But k W W') (hk : g ≠ k) : TB W' g c := (hb.block g h.lt hk).trans h
theorem TB.new (w : World) (c : Array Value) : TB (w.alloc (.cells c 157)) w.heap.size c := heap_alloc_new w _
theorem TB.set {W : World} {g : Nat} {c : Array Value} (h : TB W g c) (d : Array Value) : TB (W.setRow g d) g d := setRow_heap _ _ _ _ _ _ h
theorem TB.store {ops : Array Oper} {rest : List Oper} {o : Oper} {a : Act} {w : World} {Q : Exit → Act → World → Prop} (x y : Operand) (ho : o.op = .store 157 x y) (hgd : o.guard = none)
 (g : Nat) (t : Tk) (c : Array Value) (hc : c.size = 5) (hx : a.eval x = .pointer (some ⟨g, 0, none⟩)) (hy : a.eval y = tkV t) (hg : TB w g c)
 (h : wpList Tryz.prog ops Q rest (a.put o.dst undef) (w.setRow g (tkC t))) : wpList Tryz.prog ops Q (o :: rest) a w :=
 wpList_store_row hgd 157 x y ho g (tkC t) hx hy 157 c hg (by kernel_rfl) (by rw [hc]; rfl) (by simp [tkC]; exact ⟨rfl, rfl, rfl, rfl, rfl⟩) h
theorem retTk {fn : Func} {p : Tmp} {Q : Ending → World → Prop} {tmps : Array Value} {w : World} {g : Nat} {t : Tk}
 (h : fn.results = #[.cell p 157]) (hp : tmps.getD p undef = .pointer (some ⟨g, 0, none⟩)) (hg : TB w g (tkC t))
 (hQ : Q (.returned (tkV t)) w) : bodyPost Tryz.prog fn Q Exit.ret ⟨tmps, []⟩ w :=
 bodyPost_ret (results_cell_row h tmps w g 157 (tkC t) (0, 0) _ hp hg Tryz.underlying157 rfl (by kernel_rfl)) rfl hQ
theorem chain5 {w w1 w2 : World} {B : Nat} (h : Below B w w1) (hb : Below w1.heap.size w1 w2) (hB : B ≤ w.heap.size := by exact Nat.le_refl _) : Below B w w2 := h.trans (hb.mono (Nat.le_trans hB h.size))
def OutK (w : World) (R : Sc Tk) (e : Ending) (w' : World) : Prop := Below w.heap.size w w' ∧ match R with
 | .ok t _ => e = .returned (tkV t)
 | .bad x p => e = .panicked [{ v := errV x p, recovered := false }]
theorem reportB (x p : Int) (w : World) : Calls Tryz.prog 69 #[.int .i64 x, .int .i64 p] w (fun e w' => e = .panicked [{ v := errV x p, recovered := false }] ∧ w = w') := by
 go_enter Tryz.func69, Tryz.ntmps69
 go_wp2_with fail
 exact ⟨rfl, rfl, rfl⟩
theorem bel_set {w W : World} {g : Nat} (c : Array Value) (hb : Below w.heap.size w W) (hg : w.heap.size ≤ g) : Below w.heap.size w (W.setRow g c) := below_setRow hb hg _
theorem ba_len (b : List UInt8) : ((BA b).size : Int) = (b.length : Int) := by unfold BA ByteArray.size; simp
theorem ba_empty (b : List UInt8) : (BA b).toList.isEmpty = decide (b = []) := by
 have : (BA b).toList = b := by rw [Lib.toList_data]; rfl
 rw [this]
 cases b <;> simp
theorem stringTokenP (p : Int) (b r : List UInt8) (w : World) : Calls Tryz.prog 212 #[.int .i64 p, .string (BA b)] w (OutK w (if 200 < b.length then .bad 2 p else .ok ⟨7, p, [], b, []⟩ r)) := by
 have hsz := ba_len b
 have B0 := qh9 (Below.alloc (Below.refl w.heap.size w) (Nat.le_refl _) (.cells #[.int .i64 0, .int .i64 0, .string ⟨#[]⟩, .string ⟨#[]⟩, .string ⟨#[]⟩] 157))
 by_cases h : 200 < b.length
 · rw [if_pos h]
   have h1 : (200 : Int) < (b.length : Int) := by omega
   go_enter Tryz.func212, Tryz.ntmps212
   go_wp2_with fail
   refine (reportB 2 p _).mono ?_
   rintro e w2 ⟨rfl, rfl⟩
   exact ⟨rfl, B0.out, rfl⟩
 · rw [if_neg h]
   have h1 : ¬ (200 : Int) < (b.length : Int) := by omega
   go_enter Tryz.func212, Tryz.ntmps212
   go_wp2
   exact retTk (t := ⟨7, p, [], b, []⟩) rfl rfl (TB.new w _) ⟨Below.alloc (Below.refl _ _) (Nat.le_refl _) _, rfl⟩
theorem symbolTokenP (p : Int) (q b r : List UInt8) (w : World) : Calls Tryz.prog 214 #[.int .i64 p, .string (BA q), .string (BA b)] w (OutK w (symT (fun l => Sy.pkgOk (BA l)) p q b r)) := by
 have hsz := ba_len b
 have T0 := qh9 (TB.new w #[.int .i64 0, .int .i64 0, .string ⟨#[]⟩, .string ⟨#[]⟩, .string ⟨#[]⟩])
 have B0 := qh9 (Below.alloc (Below.refl w.heap.size w) (Nat.le_refl _) (.cells #[.int .i64 0, .int .i64 0, .string ⟨#[]⟩, .string ⟨#[]⟩, .string ⟨#[]⟩] 157))
 unfold symT
 by_cases h : 40 < b.length
 · rw [if_pos h]
   have h1 : (40 : Int) < (b.length : Int) := by omega
   go_enter Tryz.func214, Tryz.ntmps214
   go_wp2_with fail
   refine (reportB 2 p _).mono ?_
   rintro e w2 ⟨rfl, rfl⟩
   exact ⟨rfl, B0.out, rfl⟩
 · rw [if_neg h]
   have h1 : ¬ (40 : Int) < (b.length : Int) := by omega
   by_cases h2 : b = []
   · rw [if_pos h2]
     have e1 : (BA b).toList.isEmpty = true := by rw [ba_empty]; exact decide_eq_true h2
     clear h2
     go_enter Tryz.func214, Tryz.ntmps214
     go_wp2_with fail
     refine (reportB 3 p _).mono ?_
     rintro e w2 ⟨rfl, rfl⟩
     exact ⟨rfl, B0.out, rfl⟩
   · rw [if_neg h2]
     have e1 : (BA b).toList.isEmpty = false := by rw [ba_empty]; exact decide_eq_false h2
     clear h2
     by_cases h3 : q = []
     · rw [if_neg (fun h => h.1 h3)]
       have e2 : (BA q).toList.isEmpty = true := by rw [ba_empty]; exact decide_eq_true h3
       clear h3
       go_enter Tryz.func214, Tryz.ntmps214
       go_wp2
       exact retTk (t := ⟨6, p, q, b, []⟩) rfl rfl (TB.new w _) ⟨Below.alloc (Below.refl _ _) (Nat.le_refl _) _, rfl⟩
     · have e2 : (BA q).toList.isEmpty = false := by rw [ba_empty]; exact decide_eq_false h3
       cases h4 : Sy.pkgOk (BA q) with
       | false =>
        rw [if_pos ⟨h3, h4⟩]
        have H4 := qh9 h4
        clear h3 h4
        go_enter Tryz.func214, Tryz.ntmps214
        go_wp2_with fail
        refine (Sy.validPY (BA q) _).mono ?_
        rintro e w1 ⟨rfl, hb⟩
        rw [H4.out]
        replace B0 := qh9 (chain5 B0.out hb)
        clear hb
        go_wp2_with fail
        refine (reportB 3 p _).mono ?_
        rintro e w2 ⟨rfl, rfl⟩
        exact ⟨rfl, B0.out, rfl⟩
       | true =>
        rw [if_neg (fun h => absurd (h4.symm.trans h.2) (by decide))]
        have H4 := qh9 h4
        clear h3 h4
        go_enter Tryz.func214, Tryz.ntmps214
        go_wp2_with fail
        refine (Sy.validPY (BA q) _).mono ?_
        rintro e w1 ⟨rfl, hb⟩
        rw [H4.out]
        replace B0 := qh9 (chain5 B0.out hb)
        replace T0 := qh9 (T0.out.keep hb)
        clear hb
        go_wp2_with (refine TB.store (.tmp 6) (.tmp 28) rfl rfl w.heap.size ⟨6, p, q, b, []⟩ _ rfl rfl rfl T0.out ?_)
        exact retTk rfl rfl (T0.out.set _) ⟨bel_set _ B0.out (Nat.le_refl _), rfl⟩
def negS (b : Bool) (x : List UInt8) : List UInt8 := if b then text (-(val x)) else x
def numQ (b : Bool) (x y : List UInt8) : Rat := quo (negS b x) y
def numP (b : Bool) (x y : List UInt8) : List UInt8 × List UInt8 := (LA (nt (numQ b x y)), LA (dt (numQ b x y)))
def sizP (l : List UInt8) : Nat := (body l).length
def okP (l : List UInt8) : Bool := Sy.pkgOk (BA l)
theorem la_ba (l : List UInt8) : LA (BA l) = l := rfl
theorem ba_toList (l : List UInt8) : (BA l).toList = l := by rw [Lib.toList_data]; rfl
theorem decimalP (l : List UInt8) (w : World) : Calls Tryz.prog 276 #[.string (BA l)] w (fun e w' => e = .returned (.string (BA (decL l))) ∧ w = w') := by
 have HC0 : ∀ w, Calls Tryz.prog 297 #[.string (BA l), .string ⟨#[48]⟩] w fun e w' => e = .returned (.string (BA (l.dropWhile (· == 48)))) ∧ w' = w := fun w => Tryz.strings_TrimLeft_one (BA l) 48 (by decide) w
 unfold decL
 cases ht : l.dropWhile (· == 48) with
 | nil =>
  have e1 : (BA []).toList.isEmpty = true := by rw [ba_empty]; rfl
  rw [ht] at HC0
  have HC := qh9 HC0
  clear HC0 ht
  go_enter Tryz.func276, Tryz.ntmps276
  go_wp2_with fail
  refine (HC.out _).mono ?_
  rintro e w1 ⟨rfl, rfl⟩
  go_wp2
  go_ret
  exact ⟨rfl, rfl⟩
 | cons c r =>
  show Calls _ _ _ _ (fun e w' => e = .returned (.string (BA (c :: r))) ∧ w = w')
  have e1 : (BA (c :: r)).toList.isEmpty = false := by rw [ba_empty]; rfl
  rw [ht] at HC0
  obtain ⟨B, hB⟩ : ∃ B, BA (c :: r) = B := ⟨_, rfl⟩
  rw [hB] at HC0 e1 ⊢
  have HC := qh9 HC0
  clear HC0 ht hB
  go_enter Tryz.func276, Tryz.ntmps276
  go_wp2_with fail
  refine (HC.out _).mono ?_
  rintro e w1 ⟨rfl, rfl⟩
  go_wp2
  go_ret
  exact ⟨rfl, rfl⟩
def digs10 : List UInt8 := [48, 49, 50, 51, 52, 53, 54, 55, 56, 57]
theorem digU_mem (c : UInt8) : digs10.contains c = digU c := by
 have h : ((List.range 256).all fun n => digs10.contains (UInt8.ofNat n) == digU (UInt8.ofNat n)) = true := by kernel_rfl
 have := List.all_eq_true.1 h c.toNat (List.mem_range.2 c.toNat_lt)
 rw [UInt8.ofNat_toNat] at this
 exact eq_of_beq this
theorem trim_nil (l : List UInt8) : decide (Lib.trimS l digs10 = []) = l.all digU := by
 have hp : (fun c => digs10.contains c) = digU := funext digU_mem
 have k : ∀ m : List UInt8, m.dropWhile digU = [] ↔ m.all digU = true := by
  intro m
  induction m with
  | nil => simp
  | cons c m ih =>
   rw [List.dropWhile_cons, List.all_cons]
   cases digU c <;> simp [ih]
 have h1 : Lib.trimS l digs10 = [] ↔ l.all digU = true := by
  unfold Lib.trimS Lib.trimLeftS Lib.trimRightS
  rw [show (fun x => digs10.contains x) = digU from hp, k, List.all_reverse]
  have h2 := List.takeWhile_append_dropWhile (p := digU) (l := l.reverse)
  constructor
  · intro h
    rw [← List.all_reverse, ← h2, List.all_append, h, Bool.and_true, List.all_takeWhile]
  · intro h
    rw [← List.all_reverse, ← h2, List.all_append, Bool.and_eq_true] at h
    exact h.2
 by_cases h : l.all digU = true
 · rw [h, decide_eq_true (h1.2 h)]
 · rw [decide_eq_false (fun e => h (h1.1 e))]
   simpa using h
theorem isDigitsP (l : List UInt8) (hl : l.length ≤ 6000) (w : World) : Calls Tryz.prog 274 #[.string (BA l)] w (Sy.RetY w (.bool (isDigL l))) := by
 have hsz : (BA l).size ≤ 9223372036854775807 := by have := ba_len l; omega
 obtain ⟨B, hB⟩ : ∃ B, BA (Lib.trimS l digs10) = B := ⟨_, rfl⟩
 have HC : Hid (∀ w, Calls Tryz.prog 295 #[.string (BA l), .string ⟨#[48, 49, 50, 51, 52, 53, 54, 55, 56, 57]⟩] w fun e w' => e = .returned (.string B) ∧ Below w.heap.size w w') := fun w => by
  rw [← hB]
  exact Any.strings_Trim_laid Tryz.lays160 (by kernel_rfl) (BA l) ⟨#[48, 49, 50, 51, 52, 53, 54, 55, 56, 57]⟩ w hsz (by decide) (ascii_of_all (by decide))
 unfold isDigL
 by_cases h : l = []
 · have e1 : (BA l).toList.isEmpty = true := by rw [ba_empty]; exact decide_eq_true h
   rw [h] at e1 ⊢
   go_enter Tryz.func274, Tryz.ntmps274
   go_wp2
   go_ret
   exact ⟨rfl, Below.refl _ _⟩
 · have e1 : (BA l).toList.isEmpty = false := by rw [ba_empty]; exact decide_eq_false h
   have e2 : l.isEmpty = false := by cases l; exact absurd rfl h; rfl
   rw [e2]
   have hd : B.toList.isEmpty = l.all digU := by rw [← hB, ba_empty, trim_nil]
   clear hB e2
   go_enter Tryz.func274, Tryz.ntmps274
   go_wp2_with fail
   refine (HC.out _).mono ?_
   rintro e w1 ⟨rfl, hb⟩
   have HB := qh9 hb
   clear hb
   go_wp2
   go_ret
   exact ⟨rfl, HB.out⟩
theorem idxB : ∀ l : List UInt8, Lib.indexByte l 47 = if l.contains 47 then ((l.takeWhile (· != 47)).length : Int) else -1
 | [] => rfl
 | c :: l => by
  have ih := idxB l
  unfold Lib.indexByte
  rw [ih, List.contains_cons, List.takeWhile_cons]
  by_cases hc : c = 47
  · subst hc; rfl
  · have h1 : (c == 47) = false := beq_eq_false_iff_ne.2 hc
    have h2 : ((47 : UInt8) == c) = false := beq_eq_false_iff_ne.2 (fun h => hc h.symm)
    have e1 : (c != 47) = true := by rw [bne_iff_ne]; exact hc
    rw [h1, h2, Bool.false_or, if_pos e1]
    cases l.contains 47
    · rfl
    · simp
theorem take_len (l : List UInt8) : l.take (l.takeWhile (· != 47)).length = l.takeWhile (· != 47) := by
 have h := List.takeWhile_append_dropWhile (p := fun x : UInt8 => x != 47) (l := l)
 calc l.take (l.takeWhile (· != 47)).length = (l.takeWhile (· != 47) ++ l.dropWhile (· != 47)).take (l.takeWhile (· != 47)).length := by rw [h]
  _ = _ := List.take_left
theorem drop_len (l : List UInt8) : l.drop ((l.takeWhile (· != 47)).length + 1) = (l.dropWhile (· != 47)).tail := by
 have h := List.takeWhile_append_dropWhile (p := fun x : UInt8 => x != 47) (l := l)
 have : l.drop (l.takeWhile (· != 47)).length = l.dropWhile (· != 47) := by
  calc l.drop (l.takeWhile (· != 47)).length = (l.takeWhile (· != 47) ++ l.dropWhile (· != 47)).drop (l.takeWhile (· != 47)).length := by rw [h]
   _ = _ := List.drop_left
 rw [← List.drop_drop, this, List.drop_one]
theorem take_lt (l : List UInt8) (h : l.contains 47 = true) : (l.takeWhile (· != 47)).length < l.length := by
 induction l with
 | nil => simp at h
 | cons c l ih =>
  rw [List.takeWhile_cons, List.length_cons]
  by_cases hc : c = 47
  · subst hc; simp
  · rw [if_pos (by rw [bne_iff_ne]; exact hc), List.length_cons]
    have : l.contains 47 = true := by
     rw [List.contains_cons, beq_eq_false_iff_ne.2 (fun h => hc h.symm), Bool.false_or] at h
     exact h
    have := ih this
    omega
theorem ex_left (l : List UInt8) (i : Nat) : (BA l).extract 0 i = BA (l.take i) := by
 unfold BA
 apply ByteArray.ext
 rw [ByteArray.data_extract]
 simp
theorem ex_right (l : List UInt8) (i : Nat) (h : i ≤ l.length) : (BA l).extract i (BA l).size = BA (l.drop i) := by
 have hs : (BA l).size = l.length := by have := ba_len l; omega
 rw [hs]
 unfold BA
 apply ByteArray.ext
 rw [ByteArray.data_extract]
 simp
 exact List.take_of_length_le (by rw [List.length_drop]; exact Nat.le_refl _)
theorem cutP (l : List UInt8) (hl : l.length ≤ 6000) (w : World) : Calls Tryz.prog 294 #[.string (BA l), .string ⟨#[47]⟩] w (Sy.QuietY w (if l.contains 47 then .tuple #[.string (BA (l.takeWhile (· != 47))), .string (BA (l.dropWhile (· != 47)).tail), .bool true] else .tuple #[.string (BA l), .string ⟨#[]⟩, .bool false])) := by
 have hsz := ba_len l
 have HC : Hid (∀ w, Calls Tryz.prog 303 #[.string (BA l), .string ⟨#[47]⟩] w fun e w' => e = .returned (.int .i64 (if l.contains 47 then ((l.takeWhile (· != 47)).length : Int) else -1)) ∧ w' = w) := fun w => by
  rw [← idxB]
  exact Tryz.stringslite_Index_one (BA l) 47 w
 cases h : l.contains 47 with
 | true =>
  rw [h] at HC
  have HL := qh9 (ex_left l (l.takeWhile (· != 47)).length)
  have HR := qh9 (ex_right l ((l.takeWhile (· != 47)).length + 1) (take_lt l h))
  have htl := take_lt l h
  rw [take_len] at HL
  rw [drop_len] at HR
  rw [if_pos rfl] at HC ⊢
  obtain ⟨k, hk⟩ : ∃ k, (l.takeWhile (· != 47)).length = k := ⟨_, rfl⟩
  rw [hk] at HC HL HR htl
  clear hk h
  have hs1 : (BA l).size = l.length := by omega
  have h1 : (0 : Int) ≤ (k : Int) ∧ (k : Int) ≤ (l.length : Int) := by omega
  have h2 : (0 : Int) ≤ (k : Int) + 1 ∧ (k : Int) + 1 ≤ (l.length : Int) := by omega
  go_enter Tryz.func294, Tryz.ntmps294
  go_wp2_with fail
  refine (HC.out _).mono ?_
  rintro e w1 ⟨rfl, rfl⟩
  go_wp2_with fail
  go_quiet (fail)
  go_wp2
  rw [hs1] at HR
  exact bodyPost_ret (results_tmp3 rfl _ _ _) rfl ⟨by rw [← HL.out, ← HR.out]; rfl, nq, rfl⟩
 | false =>
  rw [h] at HC
  rw [if_neg (by simp)] at HC ⊢
  go_enter Tryz.func294, Tryz.ntmps294
  go_wp2_with fail
  refine (HC.out _).mono ?_
  rintro e w1 ⟨rfl, rfl⟩
  go_wp2
  exact bodyPost_ret (results_tmp3 rfl _ _ _) rfl ⟨rfl, 0, rfl⟩
def Bd (k : Nat) (q : Rat) : Prop := q.num.natAbs < 10 ^ k ∧ q.den < 10 ^ k
theorem bd_nt {k : Nat} {q : Rat} (h : Bd k q) : (nt q).size ≤ k + 2 := by unfold nt; rw [BA_size]; exact text_length h.1
theorem bd_dt {k : Nat} {q : Rat} (h : Bd k q) : (dt q).size ≤ k + 2 := by unfold dt; rw [BA_size]; exact text_length h.2
theorem pow_le {j k : Nat} (h : j ≤ k) : 10 ^ j ≤ 10 ^ k := Nat.pow_le_pow_right (by omega) h
theorem Bd.more {j k : Nat} {q : Rat} (h : Bd j q) (hk : j ≤ k) : Bd k q := ⟨Nat.lt_of_lt_of_le h.1 (pow_le hk), Nat.lt_of_lt_of_le h.2 (pow_le hk)⟩
theorem bd_divInt {k : Nat} {n d : Int} (hn : n.natAbs < 10 ^ k) (hd : d.natAbs < 10 ^ k) (hk : 0 < k) : Bd k (Rat.divInt n d) := by
 by_cases h0 : d = 0
 · subst h0
   rw [Rat.divInt_zero]
   exact ⟨Nat.pow_pos (by omega), Nat.lt_of_lt_of_le (show 1 < 10 ^ 1 by decide) (pow_le hk)⟩
 · constructor
   · rw [Rat.num_divInt]
     refine Nat.lt_of_le_of_lt (Int.natAbs_ediv_le_natAbs _ _) ?_
     rw [Int.natAbs_mul, Int.natAbs_sign_of_ne_zero h0, Nat.one_mul]
     exact hn
   · rw [Rat.den_divInt, if_neg h0]
     exact Nat.lt_of_le_of_lt (Nat.div_le_self _ _) hd
theorem bd_quo {k : Nat} {l m : List UInt8} (hl : l.length ≤ k) (hm : m.length ≤ k) (hk : 0 < k) : Bd k (quo l m) := by
 unfold quo
 refine bd_divInt ?_ ?_ hk
 · rw [val_natAbs]; exact Nat.lt_of_lt_of_le (mag_lt l) (pow_le (by omega))
 · rw [val_natAbs]; exact Nat.lt_of_lt_of_le (mag_lt m) (pow_le (by omega))
theorem lt_pow_mul {a b j k : Nat} (ha : a < 10 ^ j) (hb : b < 10 ^ k) : a * b < 10 ^ (j + k) := by
 rw [Nat.pow_add]
 exact Nat.mul_lt_mul'' ha hb
def Ob.bd (k : Nat) : Ob → Prop
 | .num q => Bd k q
 | .str s => s.length ≤ 2 * k + 20
 | .sym p n => SyOk p n
 | .cons a d => a.bd k ∧ d.bd k
def eqI (a b : Ob) : Int := if a = b then 0 else 1
def ordX (x : Bool) (a b : Ob) : Int := if x then eqI a b else ordO a b
theorem ordX_cons (x : Bool) (a d a' d' : Ob) : ordX x (.cons a d) (.cons a' d') = next (ordX x a a') (ordX x d d') := by
 unfold ordX
 cases x
 · rfl
 · simp only [if_true]
   unfold eqI next
   by_cases h1 : a = a'
   · subst h1; simp
   · simp [h1]
theorem ordX_zero (x : Bool) (a b : Ob) : ordX x a b = 0 ↔ a = b := by
 unfold ordX
 cases x
 · exact ordO_zero a b
 · simp only [if_true]
   unfold eqI
   split
   · rename_i h; exact ⟨fun _ => h, fun _ => rfl⟩
   · rename_i h; exact ⟨fun e => by omega, fun e => absurd e h⟩
def Ob.isCons : Ob → Bool
 | .cons _ _ => true
 | _ => false
def owp (x : Bool) (a b : Ob) : Int := if a.isCons && b.isCons then 0 else ordX x a b
theorem escB_len (m : UInt8) : ∀ l : List UInt8, (escB m l).length ≤ 2 * l.length
 | [] => Nat.le_refl _
 | c :: l => by
  have := escB_len m l
  unfold escB
  split <;> simp only [List.length_cons] <;> omega
theorem escL_len (m : UInt8) (l : List UInt8) : (escL m l).length ≤ 2 * l.length + 2 := by
 have := escB_len m l
 unfold escL
 simp only [List.length_cons, List.length_append, List.length_nil]
 omega
/-- What stands escaped between two marks is read as it was. -/
theorem encL_esc (n : Nat) (m : UInt8) (hm : m ≠ 92) : ∀ (l acc r : List UInt8), encL n m acc (escB m l ++ m :: r) = .ok (acc ++ l) r
 | [], acc, r => by
  show encL n m acc (m :: r) = _
  rw [encL_cons, if_pos rfl, List.append_nil]
 | c :: l, acc, r => by
  unfold escB
  by_cases h : c = m ∨ c = 92
  · rw [if_pos h]
    show encL n m acc (92 :: c :: (escB m l ++ m :: r)) = _
    rw [encL_cons, if_neg (fun e => hm e.symm), if_pos rfl]
    simp only
    rw [if_pos h, encL_esc n m hm l (acc ++ [c]) r, List.append_assoc]
    rfl
  · rw [if_neg h]
    have h1 : c ≠ m := fun e => h (.inl e)
    have h2 : c ≠ 92 := fun e => h (.inr e)
    show encL n m acc (c :: (escB m l ++ m :: r)) = _
    rw [encL_cons, if_neg h1, if_neg h2, encL_esc n m hm l (acc ++ [c]) r, List.append_assoc]
    rfl
theorem digU_isDig (c : UInt8) : digU c = isDig c := by
 unfold digU isDig
 rw [Bool.eq_iff_iff]
 simp only [Bool.and_eq_true, decide_eq_true_eq, UInt8.le_iff_toNat_le]
 exact Iff.rfl
theorem all_digU {l : List UInt8} (h : l.all isDig = true) : l.all digU = true := by
 rw [List.all_eq_true] at h ⊢
 intro c hc
 rw [digU_isDig]
 exact h c hc
theorem magText_dig (n : Nat) : (magText n).all isDig = true := by
 by_cases h : n = 0
 · subst h; decide
 · exact good_all (goodDigits_magText h)
theorem magText_nil (n : Nat) : magText n ≠ [] := by
 by_cases h : n = 0
 · subst h; decide
 · have := goodDigits_magText h
   intro e
   rw [e] at this
   cases this
theorem isDigL_mag (n : Nat) : isDigL (magText n) = true := by
 unfold isDigL
 rw [all_digU (magText_dig n)]
 have := magText_nil n
 cases h : magText n with
 | nil => exact absurd h this
 | cons c l => rfl
theorem decL_mag (n : Nat) : decL (magText n) = magText n := by
 by_cases h : n = 0
 · subst h; decide
 · have hg := goodDigits_magText h
   cases hm : magText n with
   | nil => rw [hm] at hg; cases hg
   | cons c l =>
    rw [hm] at hg
    simp only [goodDigits, Bool.and_eq_true, bne_iff_ne, ne_eq] at hg
    unfold decL
    rw [List.dropWhile_cons, if_neg (by simpa using hg.1.1)]
theorem mag_pos {n : Nat} (h : n ≠ 0) : magText n ≠ [48] := by
 have hg := goodDigits_magText h
 intro e
 rw [e] at hg
 revert hg
 decide
theorem dig_facts {c : UInt8} (h : isDig c = true) : c ≠ 45 ∧ c ≠ 47 ∧ c ≠ 46 ∧ conB c = true := by
 have hd : 48 ≤ c.toNat ∧ c.toNat ≤ 57 := by
  unfold isDig at h
  simpa using h
 have key : ∀ k : Nat, 48 ≤ k → k ≤ 57 → (UInt8.ofNat k) ≠ 45 ∧ (UInt8.ofNat k) ≠ 47 ∧ (UInt8.ofNat k) ≠ 46 ∧ conB (UInt8.ofNat k) = true := by
  intro k h1 h2
  have : k = 48 ∨ k = 49 ∨ k = 50 ∨ k = 51 ∨ k = 52 ∨ k = 53 ∨ k = 54 ∨ k = 55 ∨ k = 56 ∨ k = 57 := by omega
  rcases this with rfl | rfl | rfl | rfl | rfl | rfl | rfl | rfl | rfl | rfl <;> decide
 have e : UInt8.ofNat c.toNat = c := by simp
 rw [← e]
 exact key c.toNat hd.1 hd.2
theorem dig_con {l : List UInt8} (h : l.all isDig = true) : l.all conB = true := by
 rw [List.all_eq_true] at h ⊢
 exact fun c hc => (dig_facts (h c hc)).2.2.2
theorem dig_no47 {l : List UInt8} (h : l.all isDig = true) : l.contains 47 = false := by
 rw [List.all_eq_true] at h
 rw [← Bool.not_eq_true, List.contains_iff_mem]
 intro hm
 exact (dig_facts (h 47 hm)).2.1 rfl
theorem after_mag (n : Nat) (r : List UInt8) : afterM (magText n ++ r) = magText n ++ r ∧ isM (magText n ++ r) = false := by
 have hd := magText_dig n
 cases hm : magText n with
 | nil => exact absurd hm (magText_nil n)
 | cons c l =>
  rw [hm] at hd
  simp only [List.all_cons, Bool.and_eq_true] at hd
  have hc := (dig_facts hd.1).1
  constructor
  · unfold afterM
    split
    · rename_i r' e
      injection e with e _
      exact absurd e hc
    · rfl
  · unfold isM
    split
    · rename_i r' e
      injection e with e _
      exact absurd e hc
    · rfl
theorem take47 {l : List UInt8} (h : l.all isDig = true) (r : List UInt8) : (l ++ 47 :: r).takeWhile (· != 47) = l ∧ (l ++ 47 :: r).dropWhile (· != 47) = 47 :: r := by
 induction l with
 | nil => exact ⟨rfl, rfl⟩
 | cons c l ih =>
  simp only [List.all_cons, Bool.and_eq_true] at h
  have hc : (c != 47) = true := by rw [bne_iff_ne]; exact (dig_facts h.1).2.1
  obtain ⟨i1, i2⟩ := ih h.2
  rw [List.cons_append, List.takeWhile_cons, List.dropWhile_cons, if_pos hc, if_pos hc, i1, i2]
  exact ⟨rfl, rfl⟩
/-- The printed text of a number. -/
def numS (q : Rat) : List UInt8 := if q.den = 1 then text q.num else text q.num ++ 47 :: magText q.den
theorem text_cases (x : Int) : (0 ≤ x ∧ text x = magText x.natAbs) ∨ (x < 0 ∧ text x = 45 :: magText x.natAbs) := by
 unfold text signText
 by_cases h : x < 0
 · right
   rw [decide_eq_true h]
   have : (x.natAbs != 0) = true := by rw [bne_iff_ne]; omega
   rw [this]
   exact ⟨h, rfl⟩
 · left
   rw [decide_eq_false h]
   exact ⟨by omega, rfl⟩
theorem numL_int (x : Int) : numL (text x) = some (decide (x < 0), magText x.natAbs, [49]) := by
 have core : cutL (magText x.natAbs) = (magText x.natAbs, [49]) := by
  unfold cutL
  rw [dig_no47 (magText_dig _)]
  rfl
 have h49 : isDigL [49] = true := by decide
 rcases text_cases x with ⟨h, e⟩ | ⟨h, e⟩
 · obtain ⟨a1, a2⟩ := after_mag x.natAbs []
   rw [List.append_nil] at a1 a2
   rw [e]
   unfold numL
   rw [a1, a2, core]
   simp only [isDigL_mag, h49, Bool.and_self, if_true]
   rw [decide_eq_false (by omega)]
 · rw [e]
   unfold numL
   rw [show afterM (45 :: magText x.natAbs) = magText x.natAbs from rfl, show isM (45 :: magText x.natAbs) = true from rfl, core]
   simp only [isDigL_mag, h49, Bool.and_self, if_true]
   rw [decide_eq_true h]
theorem numL_rat (x : Int) (d : Nat) : numL (text x ++ 47 :: magText d) = some (decide (x < 0), magText x.natAbs, magText d) := by
 have core : cutL (magText x.natAbs ++ 47 :: magText d) = (magText x.natAbs, magText d) := by
  unfold cutL
  rw [if_pos (by rw [List.contains_iff_mem]; simp)]
  obtain ⟨t1, t2⟩ := take47 (magText_dig x.natAbs) (magText d)
  rw [t1, t2]
  rfl
 rcases text_cases x with ⟨h, e⟩ | ⟨h, e⟩
 · obtain ⟨a1, a2⟩ := after_mag x.natAbs (47 :: magText d)
   rw [e]
   unfold numL
   rw [a1, a2, core]
   simp only [isDigL_mag, Bool.and_self, if_true]
   rw [decide_eq_false (by omega)]
 · rw [e]
   unfold numL
   rw [show afterM (45 :: magText x.natAbs ++ 47 :: magText d) = magText x.natAbs ++ 47 :: magText d from rfl, show isM (45 :: magText x.natAbs ++ 47 :: magText d) = true from rfl, core]
   simp only [isDigL_mag, Bool.and_self, if_true]
   rw [decide_eq_true h]
theorem mag_text (n : Nat) : magText n = text (n : Int) := by
 rcases text_cases (n : Int) with ⟨h, e⟩ | ⟨h, e⟩
 · rw [e, Int.natAbs_natCast]
 · omega
theorem negS_mag (x : Int) : negS (decide (x < 0)) (magText x.natAbs) = text x := by
 unfold negS
 by_cases h : x < 0
 · rw [decide_eq_true h, if_pos rfl, mag_text, val_text]
   congr 1
   omega
 · rw [decide_eq_false h, if_neg (by decide), mag_text]
   congr 1
   omega
theorem numQ_eq (q : Rat) : numQ (decide (q.num < 0)) (decL (magText q.num.natAbs)) (decL (magText q.den)) = q := by
 unfold numQ
 rw [decL_mag, decL_mag, negS_mag, mag_text]
 exact quo_self q
/-- What may stand behind a word. -/
def Delim (r : List UInt8) : Prop := ∀ c l, r = c :: l → c = 32 ∨ c = 41 ∨ c = 10
theorem Delim.con {r : List UInt8} (h : Delim r) : ∀ c l, r = c :: l → conB c = false := fun c l e => by
 rcases h c l e with rfl | rfl | rfl <;> decide
theorem delim_nil : Delim [] := fun c l e => by cases e
theorem delim_sp (l : List UInt8) : Delim (32 :: l) := fun c r e => by injection e with e _; exact .inl e.symm
theorem delim_cl (l : List UInt8) : Delim (41 :: l) := fun c r e => by injection e with e _; exact .inr (.inl e.symm)
/-- A token without its place. -/
def Tk.key (t : Tk) : Int × List UInt8 × List UInt8 × List UInt8 := (t.k, t.pkg, t.txt, t.den)
/-- A text begins with these tokens; behind them stands r. -/
def Begins (n : Nat) (l : List UInt8) (ks : List (Int × List UInt8 × List UInt8 × List UInt8)) (r : List UInt8) : Prop :=
 ∃ ts : List Tk, ts.map Tk.key = ks ∧ ∀ us, toksL okP numP sizP n r = .ok us → toksL okP numP sizP n l = .ok (ts ++ us)
theorem Begins.trans {n : Nat} {l m r : List UInt8} {ks js : List (Int × List UInt8 × List UInt8 × List UInt8)} (h : Begins n l ks m) (h' : Begins n m js r) : Begins n l (ks ++ js) r := by
 obtain ⟨ts, h1, h2⟩ := h
 obtain ⟨us, h3, h4⟩ := h'
 refine ⟨ts ++ us, by rw [List.map_append, h1, h3], fun vs hv => ?_⟩
 rw [List.append_assoc]
 exact h2 _ (h4 _ hv)
theorem begins_one {n : Nat} {c : UInt8} {l m r : List UInt8} {t : Tk} (hs : skipL m = some (c :: l)) (h : oneL okP numP sizP n c l = .ok t r) : Begins n m [t.key] r :=
 ⟨[t], rfl, fun us hu => by
  rw [toksL_eq, hs]
  simp only
  rw [h]
  simp only
  rw [hu]
  rfl⟩
theorem skipL_not {c : UInt8} {l : List UInt8} (h1 : blankB c = false) (h2 : c ≠ 59) (h3 : c ≠ 35) : skipL (c :: l) = some (c :: l) := by
 rw [skipL_cons, h1, if_neg (by decide), if_neg h2]
 cases l with
 | nil => rfl
 | cons e l' =>
  simp only
  rw [if_neg (fun h => h3 h.1)]
theorem begins_sp (n : Nat) (l : List UInt8) : Begins n (32 :: l) [] l := ⟨[], rfl, fun us hu => by
 rw [toksL_eq] at hu ⊢
 rw [skipL_cons, show blankB 32 = true from by decide, if_pos rfl]
 exact hu⟩
theorem begins_open (n : Nat) (l : List UInt8) : Begins n (40 :: l) [(1, [], [], [])] l := by
 have h := begins_one (n := n) (t := ⟨1, posL n (40 :: l), [], [], []⟩) (r := l) (skipL_not (l := l) (show blankB 40 = false by decide) (by decide) (by decide)) (by unfold oneL; rw [if_pos rfl])
 exact h
theorem begins_close (n : Nat) (l : List UInt8) : Begins n (41 :: l) [(2, [], [], [])] l := by
 have h := begins_one (n := n) (t := ⟨2, posL n (41 :: l), [], [], []⟩) (r := l) (skipL_not (l := l) (show blankB 41 = false by decide) (by decide) (by decide)) (by unfold oneL; rw [if_neg (by decide), if_pos rfl])
 exact h
theorem begins_quote (n : Nat) (l : List UInt8) : Begins n (39 :: l) [(4, [], [], [])] l := by
 have h := begins_one (n := n) (t := ⟨4, posL n (39 :: l), [], [], []⟩) (r := l) (skipL_not (l := l) (show blankB 39 = false by decide) (by decide) (by decide)) (by unfold oneL; rw [if_neg (by decide), if_neg (by decide), if_pos rfl])
 exact h
/-- A word of constituents: what wordT makes of it. -/
theorem begins_word {n : Nat} {w r : List UInt8} {t : Tk} (hw : w.all conB = true) (hne : w ≠ []) (hr : Delim r) (h : wordT okP numP sizP n (w ++ r) = .ok t r) : Begins n (w ++ r) [t.key] r := by
 cases w with
 | nil => exact absurd rfl hne
 | cons c l =>
  simp only [List.all_cons, Bool.and_eq_true] at hw
  obtain ⟨_, _, b3, b4, b5, b6, b7, b8⟩ := con_neU hw.1
  have hhd : (l ++ r).head? ≠ some 124 := by
   cases l with
   | nil =>
    cases r with
    | nil => intro e; cases e
    | cons d r' =>
     intro e
     injection e with e
     rcases hr d r' rfl with h | h | h <;> (rw [h] at e; revert e; decide)
   | cons d l' => exact head_of_all (l := d :: l') hw.2
  refine begins_one (c := c) (l := l ++ r) (skipL_con hw.1 hhd) ?_
  unfold oneL
  rw [if_neg b3, if_neg b4, if_neg b5, if_neg b6, if_neg b7, if_pos hw.1]
  exact h
theorem wordT_plain {n : Nat} {w r : List UInt8} (hw : w.all conB = true) (hr : Delim r) : wordT okP numP sizP n (w ++ r) = if w = [46] then .ok ⟨3, posL n (w ++ r), [], [], []⟩ r else
 match numL w with
 | some (b, x, y) => numT numP sizP (posL n (w ++ r)) b x y r
 | none => symT okP (posL n (w ++ r)) [] w r := by
 obtain ⟨w1, w2⟩ := wordL_app hw hr.con
 unfold wordT
 rw [w1, w2]
 split
 · exact absurd (hr 58 (58 :: _) rfl) (by decide)
 · rfl
theorem begins_dot (n : Nat) (r : List UInt8) (hr : Delim r) : Begins n (46 :: r) [(3, [], [], [])] r := by
 have h := begins_word (n := n) (w := [46]) (r := r) (t := ⟨3, posL n (46 :: r), [], [], []⟩) (by decide) (by decide) hr (by
  rw [wordT_plain (by decide) hr, if_pos rfl]; rfl)
 exact h
theorem numS_con (q : Rat) : (numS q).all conB = true ∧ numS q ≠ [] ∧ numS q ≠ [46] := by
 have d1c : ∀ x : Int, (text x).all conB = true ∧ text x ≠ [] := fun x => by
  have h1 := dig_con (magText_dig x.natAbs)
  rcases text_cases x with ⟨_, e⟩ | ⟨_, e⟩
  · rw [e]; exact ⟨h1, magText_nil _⟩
  · rw [e, List.all_cons, h1]; exact ⟨by decide, by simp⟩
 have d2c : ∀ x : Int, text x ≠ [46] := fun x e => by
  rcases text_cases x with ⟨_, e'⟩ | ⟨_, e'⟩
  · rw [e'] at e
    have := magText_dig x.natAbs
    rw [e] at this
    revert this
    decide
  · rw [e'] at e
    injection e with e _
    revert e
    decide
 unfold numS
 split
 · exact ⟨(d1c _).1, (d1c _).2, d2c _⟩
 · refine ⟨?_, by simp, ?_⟩
   · rw [List.all_append, (d1c _).1, List.all_cons, dig_con (magText_dig _)]
     decide
   · intro e
     have := congrArg List.length e
     have h2 := (d1c q.num).2
     have h3 := magText_nil q.den
     rw [List.length_append, List.length_cons] at this
     have h4 : (text q.num).length ≠ 0 := fun h => h2 (List.length_eq_zero_iff.1 h)
     simp only [List.length_cons, List.length_nil] at this
     omega
/-- A number within the limits of digits. -/
def NumOk (q : Rat) : Prop := sizP (LA (nt q)) ≤ 100 ∧ sizP (LA (dt q)) ≤ 100
theorem begins_num (n : Nat) (q : Rat) (hb : NumOk q) (r : List UInt8) (hr : Delim r) : Begins n (numS q ++ r) [(5, [], LA (nt q), LA (dt q))] r := by
 obtain ⟨h1, h2, h3⟩ := numS_con q
 have hn : ∃ x y, numL (numS q) = some (decide (q.num < 0), x, y) ∧ decL x = magText q.num.natAbs ∧ decL y = magText q.den := by
  unfold numS
  by_cases hd : q.den = 1
  · rw [if_pos hd, numL_int]
    refine ⟨_, _, rfl, decL_mag _, ?_⟩
    rw [hd]
    decide
  · rw [if_neg hd, numL_rat]
    exact ⟨_, _, rfl, decL_mag _, decL_mag _⟩
 obtain ⟨x, y, hn, hx, hy⟩ := hn
 have hq : numP (decide (q.num < 0)) (decL x) (decL y) = (LA (nt q), LA (dt q)) := by
  unfold numP
  rw [hx, hy, ← decL_mag q.num.natAbs, ← decL_mag q.den, numQ_eq]
 have z1 : ¬ 100 < sizP (LA (nt q)) := by have := hb.1; omega
 have z2 : ¬ 100 < sizP (LA (dt q)) := by have := hb.2; omega
 exact begins_word (t := ⟨5, posL n (numS q ++ r), [], LA (nt q), LA (dt q)⟩) h1 h2 hr (by
  rw [wordT_plain h1 hr, if_neg h3, hn]
  simp only
  unfold numT
  rw [hy, if_neg (mag_pos q.den_nz), hx]
  have hq' := hq
  rw [hx, hy] at hq'
  rw [hq']
  simp only
  rw [if_neg (by rintro (h | h); exact z1 h; exact z2 h)])
theorem begins_str (n : Nat) (s r : List UInt8) (hs : s.length ≤ 200) : Begins n (escL 34 s ++ r) [(7, [], s, [])] r := by
 have e : escL 34 s ++ r = 34 :: (escB 34 s ++ 34 :: r) := by unfold escL; simp
 rw [e]
 have h := begins_one (n := n) (t := ⟨7, posL n (34 :: (escB 34 s ++ 34 :: r)), [], s, []⟩) (r := r) (skipL_not (l := escB 34 s ++ 34 :: r) (show blankB 34 = false by decide) (by decide) (by decide)) (by
  unfold oneL
  rw [if_neg (by decide), if_neg (by decide), if_neg (by decide), if_pos rfl, encL_esc n 34 (by decide) s [] r]
  simp only [List.nil_append]
  rw [if_neg (by omega)])
 exact h
theorem symT_good {p : Int} {pkg name r : List UInt8} (h1 : name ≠ []) (h2 : name.length ≤ 40) (h3 : pkg = [] ∨ okP pkg = true) : symT okP p pkg name r = .ok ⟨6, p, pkg, name, []⟩ r := by
 unfold symT
 rw [if_neg (by omega), if_neg h1, if_neg]
 rintro ⟨a, b⟩
 rcases h3 with rfl | h3
 · exact a rfl
 · rw [h3] at b; cases b
/-- The word of a symbol without its package. -/
theorem begins_plain (n : Nat) (name r : List UInt8) (h1 : name ≠ []) (h2 : name.length ≤ 40) (hr : Delim r) : Begins n (wordS name false ++ r) [(6, [], name, [])] r := by
 unfold wordS
 by_cases h : (simpleL name && (false || !(name == [46] || (numL name).isSome))) = true
 · rw [if_pos h]
   simp only [Bool.and_eq_true, Bool.false_or, Bool.not_eq_true', Bool.or_eq_false_iff, beq_eq_false_iff_ne, Option.isSome_eq_false_iff, Option.isNone_iff_eq_none] at h
   obtain ⟨a1, a2, a3⟩ := h
   have a1' : name.all conB = true := by unfold simpleL at a1; simp only [Bool.and_eq_true] at a1; exact a1.2
   exact begins_word (t := ⟨6, posL n (name ++ r), [], name, []⟩) a1' h1 hr (by
    rw [wordT_plain a1' hr, if_neg a2, a3]
    exact symT_good h1 h2 (.inl rfl))
 · rw [if_neg h]
   have e : escL 124 name ++ r = 124 :: (escB 124 name ++ 124 :: r) := by unfold escL; simp
   rw [e]
   have h := begins_one (n := n) (t := ⟨6, posL n (124 :: (escB 124 name ++ 124 :: r)), [], name, []⟩) (r := r) (skipL_not (l := escB 124 name ++ 124 :: r) (show blankB 124 = false by decide) (by decide) (by decide)) (by
    unfold oneL
    rw [if_neg (by decide), if_neg (by decide), if_neg (by decide), if_neg (by decide), if_pos rfl, encL_esc n 124 (by decide) name [] r]
    simp only [List.nil_append]
    exact symT_good h1 h2 (.inl rfl))
   exact h
/-- The word of a symbol behind its package. -/
theorem begins_qual (n : Nat) (pkg name r : List UInt8) (hp : pkg ≠ []) (hc : pkg.all conB = true) (hok : okP pkg = true) (h1 : name ≠ []) (h2 : name.length ≤ 40) (hr : Delim r) :
 Begins n (pkg ++ 58 :: 58 :: wordS name true ++ r) [(6, pkg, name, [])] r := by
 obtain ⟨w, hw⟩ : ∃ w, wordS name true = w := ⟨_, rfl⟩
 have hN : nameL n (w ++ r) = .ok name r := by
  rw [← hw]
  unfold wordS
  by_cases h : (simpleL name && (true || !(name == [46] || (numL name).isSome))) = true
  · rw [if_pos h]
    have a1 : name.all conB = true := by unfold simpleL at h; simp only [Bool.and_eq_true] at h; exact h.1.2
    obtain ⟨w1, w2⟩ := wordL_app a1 hr.con
    cases hn : name with
    | nil => exact absurd hn h1
    | cons d m =>
     rw [hn] at a1 w1 w2
     have a1' := a1
     simp only [List.all_cons, Bool.and_eq_true] at a1'
     rw [List.cons_append] at w1 w2 ⊢
     rw [nameL, if_neg (con_neU a1'.1).2.2.2.2.2.2.1, if_pos a1'.1, w1, w2]
  · rw [if_neg h]
    have e : escL 124 name ++ r = 124 :: (escB 124 name ++ 124 :: r) := by unfold escL; simp
    rw [e, nameL, if_pos rfl, encL_esc n 124 (by decide) name [] r]
    rfl
 rw [hw]
 have e : pkg ++ 58 :: 58 :: w ++ r = pkg ++ 58 :: 58 :: (w ++ r) := by simp
 rw [e]
 cases hpk : pkg with
 | nil => exact absurd hpk hp
 | cons c l =>
  rw [hpk] at hc hok
  have hc' := hc
  simp only [List.all_cons, Bool.and_eq_true] at hc'
  obtain ⟨_, _, b3, b4, b5, b6, b7, b8⟩ := con_neU hc'.1
  have hhd : (l ++ 58 :: 58 :: (w ++ r)).head? ≠ some 124 := by
   cases l with
   | nil => intro e; injection e with e; revert e; decide
   | cons d l' => exact head_of_all (l := d :: l') hc'.2
  obtain ⟨w1, w2⟩ := wordL_app (m := 58 :: 58 :: (w ++ r)) hc (fun c r e => by injection e with e _; subst e; rfl)
  refine begins_one (c := c) (l := l ++ 58 :: 58 :: (w ++ r)) (t := ⟨6, posL n (c :: (l ++ 58 :: 58 :: (w ++ r))), c :: l, name, []⟩) (skipL_con hc'.1 hhd) ?_
  unfold oneL
  rw [if_neg b3, if_neg b4, if_neg b5, if_neg b6, if_neg b7, if_pos hc'.1]
  unfold wordT
  rw [List.cons_append] at w1 w2
  rw [w1, w2]
  simp only
  rw [hN]
  simp only
  exact symT_good h1 h2 (.inr hok)
theorem get_ix (s : ByteArray) (j : Nat) (h : j < s.size) : s.get! j = s[j]'h := by simpa using get_at s j h
/-- A rune that is not ASCII: none of its bytes is, and all of them are there. -/
theorem dec_high (s : ByteArray) (pos : Nat) (h : pos < s.size) (ha : 128 ≤ (s[pos]'h).toNat) :
 pos + (Utf8.decode s pos).2 ≤ s.size ∧ ∀ j (hj : j < s.size), pos ≤ j → j < pos + (Utf8.decode s pos).2 → 128 ≤ (s[j]'hj).toNat := by
 have hn : ¬ (s[pos]'h).toNat < 128 := by omega
 have one : ∀ j (hj : j < s.size), pos ≤ j → j < pos + 1 → 128 ≤ (s[j]'hj).toNat := fun j hj h1 h2 => by
  obtain rfl : j = pos := by omega
  exact ha
 have ct : ∀ k, (decide (pos + k < s.size) && ((s.get! (pos + k)).toNat / 64 == 2)) = true → ∃ hk : pos + k < s.size, 128 ≤ (s[pos + k]'hk).toNat := fun k hk => by
  rw [Bool.and_eq_true, decide_eq_true_eq, beq_iff_eq] at hk
  refine ⟨hk.1, ?_⟩
  have h2 := hk.2
  rw [get_ix s (pos + k) hk.1] at h2
  omega
 simp only [Utf8.decode, get_at s pos h, hn, if_false]
 split
 · rename_i hc
   rw [Bool.and_eq_true] at hc
   obtain ⟨k1, b1⟩ := ct 1 hc.2
   split
   · exact ⟨by show pos + 2 ≤ _; omega, fun j hj h1 h2 => by
      replace h2 : j < pos + 2 := h2
      by_cases e : j = pos + 1
      · subst e; exact b1
      · exact one j hj h1 (by omega)⟩
   · exact ⟨by show pos + 1 ≤ _; omega, one⟩
 · split
   · rename_i hc
     rw [Bool.and_eq_true, Bool.and_eq_true] at hc
     obtain ⟨k1, b1⟩ := ct 1 hc.1.2
     obtain ⟨k2, b2⟩ := ct 2 hc.2
     split
     · exact ⟨by show pos + 3 ≤ _; omega, fun j hj h1 h2 => by
        replace h2 : j < pos + 3 := h2
        by_cases e : j = pos + 1
        · subst e; exact b1
        · by_cases e : j = pos + 2
          · subst e; exact b2
          · exact one j hj h1 (by omega)⟩
     · exact ⟨by show pos + 1 ≤ _; omega, one⟩
   · split
     · rename_i hc
       rw [Bool.and_eq_true, Bool.and_eq_true, Bool.and_eq_true] at hc
       obtain ⟨k1, b1⟩ := ct 1 hc.1.1.2
       obtain ⟨k2, b2⟩ := ct 2 hc.1.2
       obtain ⟨k3, b3⟩ := ct 3 hc.2
       split
       · exact ⟨by show pos + 4 ≤ _; omega, fun j hj h1 h2 => by
          replace h2 : j < pos + 4 := h2
          by_cases e : j = pos + 1
          · subst e; exact b1
          · by_cases e : j = pos + 2
            · subst e; exact b2
            · by_cases e : j = pos + 3
              · subst e; exact b3
              · exact one j hj h1 (by omega)⟩
       · exact ⟨by show pos + 1 ≤ _; omega, one⟩
     · exact ⟨by show pos + 1 ≤ _; omega, one⟩
theorem escB_plain (m : UInt8) : ∀ l r : List UInt8, (∀ c ∈ l, c ≠ m ∧ c ≠ 92) → escB m (l ++ r) = l ++ escB m r
 | [], r, _ => rfl
 | c :: l, r, h => by
  have hc := h c (by simp)
  show escB m (c :: (l ++ r)) = _
  rw [escB, if_neg (by rintro (e | e); exact hc.1 e; exact hc.2 e), escB_plain m l r (fun x hx => h x (by simp [hx]))]
  rfl
/-- So far: these bytes are written, and the text is done up to d and looked at up to j. -/
def EncI (m : UInt8) (L acc : List UInt8) (d j : Nat) : Prop := d ≤ j ∧ j ≤ L.length ∧ acc ++ ((L.drop d).take (j - d) ++ escB m (L.drop j)) = m :: escB m L
theorem EncI.start (m : UInt8) (L : List UInt8) : EncI m L [m] 0 0 := ⟨Nat.le_refl _, Nat.zero_le _, rfl⟩
theorem EncI.len {m : UInt8} {L acc : List UInt8} {d j : Nat} (h : EncI m L acc d j) : acc.length ≤ 2 * L.length + 1 := by
 have e := congrArg List.length h.2.2
 have h2 := escB_len m L
 simp only [List.length_append, List.length_cons] at e
 omega
theorem EncI.plain {m : UInt8} {L acc : List UInt8} {d j : Nat} (h : EncI m L acc d j) (k : Nat) (hk : j + k ≤ L.length) (hs : ∀ c ∈ (L.drop j).take k, c ≠ m ∧ c ≠ 92) : EncI m L acc d (j + k) := by
 obtain ⟨h1, h2, h3⟩ := h
 refine ⟨by omega, hk, ?_⟩
 rw [← h3]
 congr 1
 have e1 : L.drop j = (L.drop j).take k ++ L.drop (j + k) := by
  have := (List.take_append_drop k (L.drop j)).symm
  rwa [List.drop_drop] at this
 rw [e1, escB_plain m _ _ hs, ← List.append_assoc]
 congr 1
 have e2 : j + k - d = (j - d) + k := by omega
 rw [e2, List.take_add, List.drop_drop]
 congr 3
 omega
theorem EncI.mark {m : UInt8} {L acc : List UInt8} {d j : Nat} (h : EncI m L acc d j) (hj : j < L.length) (hc : L[j] = m ∨ L[j] = 92) : EncI m L (acc ++ (L.drop d).take (j - d) ++ [92]) j (j + 1) := by
 obtain ⟨h1, h2, h3⟩ := h
 refine ⟨by omega, hj, ?_⟩
 rw [← h3]
 have e1 : L.drop j = L[j] :: L.drop (j + 1) := (List.getElem_cons_drop hj).symm
 have e2 : j + 1 - j = 1 := by omega
 have e3 : escB m (L.drop j) = 92 :: L[j] :: escB m (L.drop (j + 1)) := by rw [e1, escB, if_pos hc]
 have e4 : (L.drop j).take 1 = [L[j]] := by rw [e1]; rfl
 rw [e2, e3, e4]
 simp only [List.append_assoc, List.cons_append, List.nil_append]
theorem EncI.fin {m : UInt8} {L acc : List UInt8} {d : Nat} (h : EncI m L acc d L.length) : acc ++ L.drop d ++ [m] = escL m L := by
 obtain ⟨h1, h2, h3⟩ := h
 rw [List.drop_length, escB, List.append_nil, List.take_of_length_le (by rw [List.length_drop]; omega)] at h3
 unfold escL
 rw [h3]
 rfl
theorem ix_two (m c : UInt8) : decide (0 ≤ Lib.indexByte [m, 92] c) = decide (c = m ∨ c = 92) := by
 unfold Lib.indexByte Lib.indexByte Lib.indexByte
 by_cases h1 : c = m
 · subst h1; simp
 · have e1 : (m == c) = false := by rw [beq_eq_false_iff_ne]; exact fun e => h1 e.symm
   by_cases h2 : c = 92
   · subst h2; simp [e1]
   · have e2 : ((92 : UInt8) == c) = false := by rw [beq_eq_false_iff_ne]; exact fun e => h2 e.symm
     simp [e1, e2, h1, h2]
end Go.Proofs.YtlocnkobancjmaaGreatDoor
