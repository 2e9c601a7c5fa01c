/- The scanner in memory; errors that are raised. -/
import Derived.Test.YtflnffgohbbhiaaGreatDoorG11
import Derived.Test.YtflnffgohbbhiaaGreatDoorG12
import Derived.Test.YtflnffgohbbhiaaGreatDoorShelf
import Derived.Test.YtflnffgohbbhiaaGreatDoorG7
import Derived.Lib.AppendStr
import Derived.Shelf.Strings.SlTrimAscii
namespace Go.Proofs.YtflnffgohbbhiaaGreatDoor
open Go Go.RowKit
set_option linter.unusedVariables false
structure But (g : Nat) (w w' : World) : Prop where
 os : w'.os = w.os
 tape : w'.tape = w.tape
 output : w'.output = w.output
 size : w.heap.size ≤ w'.heap.size
 block : ∀ k, k < w.heap.size → k ≠ g → w'.heap[k]? = w.heap[k]?
theorem But.refl (g : Nat) (w : World) : But g w w := ⟨rfl, rfl, rfl, Nat.le_refl _, fun _ _ _ => rfl⟩
theorem But.trans {g : Nat} {a b c : World} (h : But g a b) (k : But g b c) : But g a c :=
 ⟨k.os.trans h.os, k.tape.trans h.tape, k.output.trans h.output, Nat.le_trans h.size k.size, fun i hi hg => (k.block i (Nat.lt_of_lt_of_le hi h.size) hg).trans (h.block i hi hg)⟩
theorem But.of {g : Nat} {a b : World} (h : Below a.heap.size a b) : But g a b := ⟨h.os, h.tape, h.output, h.size, fun i hi _ => h.block i hi⟩
theorem But.drewN {g : Nat} (w : World) (n : Nat) : But g w (w.drewN n) := ⟨rfl, rfl, rfl, Nat.le_refl _, fun _ _ _ => rfl⟩
theorem But.below {g B : Nat} {a b : World} (h : But g a b) (hB : B ≤ g) (hs : B ≤ a.heap.size) : Below B a b := ⟨h.os, h.tape, h.output, h.size, fun i hi => h.block i (by omega) (by omega)⟩
theorem But.set {g : Nat} (w : World) (i : Nat) (v : Value) : But g w (w.setCell ⟨g, i, none⟩ v) := ⟨rfl, rfl, rfl, by simp [World.setCell], fun k _ hk => Below.heap_setCell w ⟨g, i, none⟩ v k hk⟩
def errV (e p : Int) : Value := .iface 26 (.agg #[.int .i64 e, .int .i64 p])
def PanS (w : World) (g : Nat) (x p : Int) (e : Ending) (w' : World) : Prop := e = .panicked [{ v := errV x p, recovered := false }] ∧ But g w w'
def Scn (w : World) (g : Nat) (s : ByteArray) (i : Nat) : Prop := w.heap[g]? = some (.cells #[.string s, .int .i64 (i : Int)] 90 (0, 0))
theorem Scn.lt {w : World} {g : Nat} {s : ByteArray} {i : Nat} (h : Scn w g s i) : g < w.heap.size := Sy.blk_ltY h
theorem Scn.c0 {w : World} {g : Nat} {s : ByteArray} {i : Nat} (h : Scn w g s i) : w.cell? ⟨g, 0, none⟩ = some (.string s) := by rw [cell_of_row _ _ _ _ _ _ h]; rfl
theorem Scn.c1 {w : World} {g : Nat} {s : ByteArray} {i : Nat} (h : Scn w g s i) : w.cell? ⟨g, 1, none⟩ = some (.int .i64 (i : Int)) := by rw [cell_of_row _ _ _ _ _ _ h]; rfl
theorem Scn.fr {w : World} {g : Nat} {s : ByteArray} {i : Nat} (h : Scn w g s i) : w.frozen? ⟨g, 1, none⟩ = false := by
 unfold Scn at h
 simp [World.frozen?, h]
theorem Scn.of {w w' : World} {g : Nat} {s : ByteArray} {i : Nat} (h : Scn w g s i) (hb : Below w.heap.size w w') : Scn w' g s i := (hb.block g h.lt).trans h
theorem Scn.drewN {w : World} {g : Nat} {s : ByteArray} {i : Nat} (h : Scn w g s i) (n : Nat) : Scn (w.drewN n) g s i := h
theorem Scn.set {w : World} {g : Nat} {s : ByteArray} {i : Nat} (h : Scn w g s i) (x : Int) (j : Nat) (hx : x = (j : Int)) : Scn (w.setCell ⟨g, 1, none⟩ (.int .i64 x)) g s j := by
 unfold Scn at h ⊢
 subst hx
 simp [World.setCell, Array.getElem?_modify, h]
def Ret5 (w : World) (g : Nat) (s : ByteArray) (j : Nat) (v : Value) (e : Ending) (w' : World) : Prop := e = .returned v ∧ Scn w' g s j ∧ But g w w'
def RetR5 (w : World) (g : Nat) (s : ByteArray) (r : List UInt8) (v : Value) (e : Ending) (w' : World) : Prop := ∃ j, j ≤ s.size ∧ (LA s).drop j = r ∧ Ret5 w g s j v e w'
def posW (g : Nat) (w : World) : Nat := match w.cell? ⟨g, 1, none⟩ with
 | some (.int _ x) => x.toNat
 | _ => 0
theorem Scn.posW {w : World} {g : Nat} {s : ByteArray} {i : Nat} (h : Scn w g s i) : posW g w = i := by unfold Proofs.YtflnffgohbbhiaaGreatDoor.posW; rw [h.c1]; rfl
theorem drewN2 (w : World) (n m : Nat) : (w.drewN n).drewN m = w.drewN (n + m) := by simp [World.drewN, Nat.add_assoc]
theorem la_length (s : ByteArray) : (LA s).length = s.size := by unfold LA; rw [Array.length_toList]; rfl
theorem la_drop {s : ByteArray} {i : Nat} (hi : i < s.size) : (LA s).drop i = s[i] :: (LA s).drop (i + 1) := Sy.bl_drop hi
theorem la_end {s : ByteArray} {i : Nat} (hi : s.size ≤ i) : (LA s).drop i = [] := List.drop_eq_nil_of_le (by rw [la_length]; exact hi)
theorem la_extract {s : ByteArray} {i : Nat} (hi : i ≤ s.size) : (s.extract i s.size).data.toList = (LA s).drop i := by
 unfold LA
 rw [ByteArray.data_extract]
 simp
 exact List.take_of_length_le (by rw [List.length_drop, Array.length_toList]; exact Nat.le_refl _)
theorem posL_drop (s : ByteArray) {i : Nat} (hi : i ≤ s.size) : posL s.size ((LA s).drop i) = (i : Int) := by unfold posL; rw [List.length_drop, la_length]; omega
set_option maxHeartbeats 1000000 in
theorem reportP (x p : Int) (w : World) (g : Nat) : Calls Tryz.prog 40 #[.int .i64 x, .int .i64 p] w (PanS w g x p) := by
 go_enter Tryz.func40, Tryz.ntmps40
 go_wp2_with fail
 exact ⟨rfl, rfl, But.refl _ _⟩
set_option maxHeartbeats 1000000 in
theorem endedP (w : World) (g : Nat) (s : ByteArray) (i : Nat) (h : Scn w g s i) : Calls Tryz.prog 45 #[.pointer (some ⟨g, 0, none⟩)] w (Sy.QuietY w (.bool ((i : Int) == (s.size : Int)))) := by
 have c0 := h.c0
 have c1 := h.c1
 clear h
 go_enter Tryz.func45, Tryz.ntmps45
 go_wp2_with fail
 go_quiet (fail)
 go_wp2
 go_ret
 exact ⟨rfl, _, rfl⟩
set_option maxHeartbeats 1000000 in
theorem peekP (w : World) (g : Nat) (s : ByteArray) (i : Nat) (h : Scn w g s i) (hi : i < s.size) : Calls Tryz.prog 73 #[.pointer (some ⟨g, 0, none⟩)] w (Sy.QuietY w (.int .u8 ((s[i]'hi).toNat : Int))) := by
 have HS := Lib.hid h
 have ht : ((i : Int) == (s.size : Int)) = false := by rw [beq_eq_false_iff_ne]; omega
 clear h
 go_enter Tryz.func73, Tryz.ntmps73
 go_wp2_with fail
 refine (endedP w g s i HS.out).mono ?_
 rintro e w1 ⟨rfl, n, rfl⟩
 rw [ht]
 have c0 := (HS.out.drewN n).c0
 have c1 := (HS.out.drewN n).c1
 have hi2 : 0 ≤ (i : Int) ∧ (i : Int) < (s.size : Int) := by omega
 generalize hw : w.drewN n = w1 at c0 c1 ⊢
 have HW := Lib.hid hw
 clear hw
 go_wp2_with fail
 go_quiet (fail)
 go_wp2
 go_ret
 exact ⟨rfl, n + nq, by rw [← HW.out, drewN2]⟩
set_option maxHeartbeats 1000000 in
theorem peekEnd (w : World) (g : Nat) (s : ByteArray) (h : Scn w g s s.size) : Calls Tryz.prog 73 #[.pointer (some ⟨g, 0, none⟩)] w (PanS w g 11 s.size) := by
 have HS := Lib.hid h
 have ht : ((s.size : Int) == (s.size : Int)) = true := by rw [beq_self_eq_true]
 clear h
 go_enter Tryz.func73, Tryz.ntmps73
 go_wp2_with fail
 refine (endedP w g s _ HS.out).mono ?_
 rintro e w1 ⟨rfl, n, rfl⟩
 rw [ht]
 have c1 := (HS.out.drewN n).c1
 generalize hw : w.drewN n = w1 at c1 ⊢
 have HW := Lib.hid hw
 clear hw
 go_wp2_with fail
 refine (reportP 11 _ _ g).mono ?_
 rintro e w2 ⟨rfl, hb⟩
 exact ⟨rfl, rfl, (HW.out ▸ But.drewN w n : But g w w1).trans hb⟩
set_option maxHeartbeats 1000000 in
theorem atP (w : World) (g : Nat) (s : ByteArray) (i : Nat) (h : Scn w g s i) (hi : i ≤ s.size) (p : ByteArray) (b : Bool) (hb : Lib.hasPrefix ((LA s).drop i) (LA p) = b) :
 Calls Tryz.prog 74 #[.pointer (some ⟨g, 0, none⟩), .string p] w (Sy.QuietY w (.bool b)) := by
 have c0 := h.c0
 have c1 := h.c1
 have hi2 : (0 ≤ (i : Int) ∧ (i : Int) ≤ (s.size : Int)) := by omega
 have C : Hid (∀ m, Calls Tryz.prog 98 #[.string (s.extract i s.size), .string p] (w.drewN m) (Sy.QuietY (w.drewN m) (.bool b))) := fun m =>
  (Tryz.strings_HasPrefix _ _ _).mono fun e w' ⟨h1, h2⟩ => ⟨by rw [h1, la_extract hi]; exact congrArg (fun x => Ending.returned (.bool x)) hb, 0, h2⟩
 clear h hb
 go_enter Tryz.func74, Tryz.ntmps74
 go_wp2_with fail
 go_quiet ((go_at_call 98; exact Calls.quiet_of (C.out _)))
 go_wp2
 go_ret
 exact ⟨rfl, nq, rfl⟩
set_option maxHeartbeats 1000000 in
theorem isBlankP (x : Int) (b : Bool) (h : (x == 32 || x == 9 || x == 10 || x == 13) = b) (w : World) : Calls Tryz.prog 72 #[.int .u8 x] w fun e w' => e = .returned (.bool b) ∧ w = w' := by
 by_cases h1 : x = 32
 · subst h1
   simp at h
   subst h
   go_enter Tryz.func72, Tryz.ntmps72
   go_wp2
   go_ret
   exact ⟨rfl, rfl⟩
 · have e1 : (x == 32) = false := beq_eq_false_iff_ne.2 h1
   by_cases h2 : x = 9
   · subst h2
     simp at h
     subst h
     go_enter Tryz.func72, Tryz.ntmps72
     go_wp2
     go_ret
     exact ⟨rfl, rfl⟩
   · have e2 : (x == 9) = false := beq_eq_false_iff_ne.2 h2
     by_cases h3 : x = 10
     · subst h3
       simp at h
       subst h
       go_enter Tryz.func72, Tryz.ntmps72
       go_wp2
       go_ret
       exact ⟨rfl, rfl⟩
     · have e3 : (x == 10) = false := beq_eq_false_iff_ne.2 h3
       rw [e1, e2, e3] at h
       clear h1 h2 h3
       cases e4 : (x == 13) with
       | false =>
        rw [e4] at h
        simp at h
        subst h
        go_enter Tryz.func72, Tryz.ntmps72
        go_wp2
        go_ret
        exact ⟨rfl, rfl⟩
       | true =>
        rw [e4] at h
        simp at h
        subst h
        go_enter Tryz.func72, Tryz.ntmps72
        go_wp2
        go_ret
        exact ⟨rfl, rfl⟩
theorem conB_no (c : UInt8) : conB c = (decide (32 < (c.toNat : Int)) && (decide ((c.toNat : Int) ≤ 126) && decide (Lib.indexByte [40, 41, 39, 34, 59, 124, 58] c < 0))) := by
 have h : ((List.range 256).all fun n => conB (UInt8.ofNat n) == (decide (32 < ((UInt8.ofNat n).toNat : Int)) && (decide (((UInt8.ofNat n).toNat : Int) ≤ 126) && decide (Lib.indexByte [40, 41, 39, 34, 59, 124, 58] (UInt8.ofNat n) < 0)))) = true := by kernel_rfl
 have := List.all_eq_true.1 h c.toNat (List.mem_range.2 c.toNat_lt)
 rw [UInt8.ofNat_toNat] at this
 exact eq_of_beq this
set_option maxHeartbeats 1000000 in
theorem isConP (c : UInt8) (w : World) : Calls Tryz.prog 81 #[.int .u8 (c.toNat : Int)] w fun e w' => e = .returned (.bool (conB c)) ∧ w = w' := by
 rw [conB_no]
 have e0 : ((c.toNat : Int)).toNat.toUInt8 = c := by simp
 by_cases h1 : 32 < (c.toNat : Int)
 · rw [decide_eq_true h1]
   by_cases h2 : (c.toNat : Int) ≤ 126
   · rw [decide_eq_true h2]
     go_enter Tryz.func81, Tryz.ntmps81
     go_wp2_with fail
     refine (Tryz.strings_IndexByte _ _ _).mono ?_
     rintro e w' ⟨rfl, rfl⟩
     go_wp2
     go_ret
     refine ⟨?_, rfl⟩
     rw [Bool.true_and, Bool.true_and]
     rfl
   · rw [decide_eq_false h2]
     go_enter Tryz.func81, Tryz.ntmps81
     go_wp2
     go_ret
     exact ⟨rfl, rfl⟩
 · rw [decide_eq_false h1]
   go_enter Tryz.func81, Tryz.ntmps81
   go_wp2
   go_ret
   exact ⟨rfl, rfl⟩
theorem pre1 (c d : UInt8) (l : List UInt8) : Lib.hasPrefix (c :: l) [d] = (d == c) := by
 show ((d == c) && true) = _
 rw [Bool.and_true]
theorem pre2_one (x c d : UInt8) : Lib.hasPrefix [x] [c, d] = false := by
 show ((c == x) && false) = _
 rw [Bool.and_false]
theorem pre2 (x y c d : UInt8) (l : List UInt8) : Lib.hasPrefix (x :: y :: l) [c, d] = ((c == x) && (d == y)) := by
 show ((c == x) && ((d == y) && true)) = _
 rw [Bool.and_true]
theorem la_cases (s : ByteArray) {i : Nat} (hi : i ≤ s.size) : (i = s.size ∧ (LA s).drop i = []) ∨ (∃ h : i < s.size, (LA s).drop i = s[i] :: (LA s).drop (i + 1)) := by
 rcases Nat.lt_or_ge i s.size with h | h
 · exact .inr ⟨h, la_drop h⟩
 · exact .inl ⟨by omega, la_end h⟩
def ScW (w wr : World) (g : Nat) (s : ByteArray) (i : Nat) : Prop := Scn wr g s i ∧ But g w wr
theorem ScW.q {w wr w1 : World} {g : Nat} {s : ByteArray} {i : Nat} (h : ScW w wr g s i) (hq : ∃ n, w1 = wr.drewN n) : ScW w w1 g s i := by
 obtain ⟨n, rfl⟩ := hq
 exact ⟨h.1.drewN n, h.2.trans (But.drewN wr n)⟩
theorem ScW.set {w wr : World} {g : Nat} {s : ByteArray} {i : Nat} (h : ScW w wr g s i) (x : Int) (j : Nat) (hx : Value.int .i64 x = .int .i64 (j : Int)) : ScW w (wr.setCell ⟨g, 1, none⟩ (.int .i64 x)) g s j := by
 injection hx with _ hx
 exact ⟨h.1.set x j hx, h.2.trans (But.set wr 1 _)⟩
theorem ScW.start {w : World} {g : Nat} {s : ByteArray} {i : Nat} (h : Scn w g s i) : ScW w w g s i := ⟨h, But.refl _ _⟩
theorem eq_no {i n : Nat} (h : i < n) : ((i : Int) == (n : Int)) = false := by rw [beq_eq_false_iff_ne]; omega
theorem eq_yes (n : Nat) : ((n : Int) == (n : Int)) = true := beq_self_eq_true _
set_option maxHeartbeats 4000000 in
set_option maxRecDepth 100000 in
theorem skipLineP (w : World) (g : Nat) (s : ByteArray) (i : Nat) (h : Scn w g s i) (hi : i ≤ s.size) (hs : s.size ≤ 6000) :
 Calls Tryz.prog 75 #[.pointer (some ⟨g, 0, none⟩)] w (RetR5 w g s (lineL ((LA s).drop i)) (.tuple #[])) := by
 obtain ⟨R, hR⟩ : ∃ R, lineL ((LA s).drop i) = R := ⟨_, rfl⟩
 rw [hR]
 have H0 : Hid (ScW w w g s i ∧ lineL ((LA s).drop i) = R) := ⟨⟨h, But.refl _ _⟩, hR⟩
 clear h hR
 go_enter Tryz.func75, Tryz.ntmps75
 go_wp2_with fail
 go_loopw [] (fun wr => ∃ (i : Nat), i ≤ s.size ∧ Hid (ScW w wr g s i ∧ lineL ((LA s).drop i) = R)) (fun wr => s.size - posW g wr)
 case atStart => exact ⟨i, hi, H0⟩
 case round =>
  clear H0
  obtain ⟨j, hj, hE⟩ := hrel
  obtain ⟨wo, rfl⟩ : ∃ wo : World, wo = wr := ⟨_, rfl⟩
  obtain ⟨hE, hR⟩ := hE.out
  have hp := hE.1.posW
  rcases la_cases s hj with ⟨rfl, hl⟩ | ⟨hlt, hl⟩
  · rw [hl] at hR
    have HE := Lib.hid hE
    have HR := Lib.hid hR
    have HL := Lib.hid hl
    clear hE hR hl hp
    go_wp2_with fail
    refine (endedP wo g s _ HE.out.1).mono ?_
    rintro e w1 ⟨rfl, hq⟩
    rw [eq_yes]
    replace HE := Lib.hid (HE.out.q hq)
    clear hq
    go_wp2
    go_end0
    exact ⟨s.size, hj, HL.out.trans HR.out, rfl, HE.out.1, HE.out.2⟩
  · have hne := eq_no hlt
    have hat := pre1 s[j] 10 ((LA s).drop (j + 1))
    rw [← hl] at hat
    have HA : Hid (Lib.hasPrefix ((LA s).drop j) (LA ⟨#[10]⟩) = ((10 : UInt8) == s[j])) := hat
    have HE := Lib.hid hE
    have HN := Lib.hid hne
    clear hE hne hat
    cases hb : ((10 : UInt8) == s[j]) with
    | true =>
     rw [hb] at HA
     have hd : s[j] = 10 := (eq_of_beq hb).symm
     rw [hl, lineL, if_pos hd, ← hl] at hR
     have HR := Lib.hid hR
     clear hR hl hd hb hp
     go_wp2_with fail
     refine (endedP wo g s _ HE.out.1).mono ?_
     rintro e w1 ⟨rfl, hq⟩
     rw [HN.out]
     replace HE := Lib.hid (HE.out.q hq)
     clear hq
     go_wp2_with fail
     refine (atP w1 g s _ HE.out.1 hj _ _ HA.out).mono ?_
     rintro e w2 ⟨rfl, hq⟩
     replace HE := Lib.hid (HE.out.q hq)
     clear hq
     go_wp2
     go_end0
     exact ⟨j, hj, HR.out, rfl, HE.out.1, HE.out.2⟩
    | false =>
     rw [hb] at HA
     have hd : ¬ s[j] = 10 := fun h => by rw [h] at hb; simp at hb
     rw [hl, lineL, if_neg hd] at hR
     have HR := Lib.hid hR
     have HP := Lib.hid hp
     clear hR hl hd hb hp
     go_wp2_with fail
     refine (endedP wo g s _ HE.out.1).mono ?_
     rintro e w1 ⟨rfl, hq⟩
     rw [HN.out]
     replace HE := Lib.hid (HE.out.q hq)
     clear hq
     go_wp2_with fail
     refine (atP w1 g s _ HE.out.1 hj _ _ HA.out).mono ?_
     rintro e w2 ⟨rfl, hq⟩
     replace HE := Lib.hid (HE.out.q hq)
     clear hq
     have c1 := HE.out.1.c1
     have cf := HE.out.1.fr
     go_wp2
     clear c1 cf
     go_roundw
     case rel => exact ⟨j + 1, hlt, HE.out.set _ _ (by go_num), HR.out⟩
     case measure =>
      rw [HP.out, (HE.out.set _ (j + 1) (by go_num)).1.posW]
      omega
def OutO (w : World) (g : Nat) (s : ByteArray) (R : Option (List UInt8)) (e : Ending) (w' : World) : Prop := match R with
 | some r => RetR5 w g s r (.tuple #[]) e w'
 | none => PanS w g 11 s.size e w'
theorem OutO.some_ {w : World} {g : Nat} {s : ByteArray} {R : Option (List UInt8)} {j : Nat} {wr : World} (hj : j ≤ s.size) (hR : some ((LA s).drop j) = R) (h : ScW w wr g s j) : OutO w g s R (.returned (.tuple #[])) wr := by
 subst hR
 exact ⟨j, hj, rfl, rfl, h.1, h.2⟩
theorem OutO.none_ {w wr w' : World} {g : Nat} {s : ByteArray} {R : Option (List UInt8)} {j : Nat} (hR : none = R) (h : ScW w wr g s j) (hb : But g wr w') : OutO w g s R (.panicked [{ v := errV 11 s.size, recovered := false }]) w' := by
 subst hR
 exact ⟨rfl, h.2.trans hb⟩
def NeW (w wr : World) (g : Nat) (s : ByteArray) (R : Option (List UInt8)) (i d : Nat) : Prop := ScW w wr g s i ∧ (d ≤ i ∧ nestL d ((LA s).drop i) = R)
theorem nest_zero (l : List UInt8) : nestL 0 l = some l := by cases l <;> rfl
theorem nest_nil (d : Nat) (h : 0 < d) : nestL d [] = none := by
 obtain ⟨k, rfl⟩ : ∃ k, d = k + 1 := ⟨d - 1, by omega⟩
 rfl
theorem nest_one (d : Nat) (h : 0 < d) (c : UInt8) : nestL d [c] = none := by
 obtain ⟨k, rfl⟩ : ∃ k, d = k + 1 := ⟨d - 1, by omega⟩
 rfl
theorem nest_cons (d : Nat) (h : 0 < d) (c e : UInt8) (l : List UInt8) : nestL d (c :: e :: l) = if c = 35 ∧ e = 124 then nestL (d + 1) l else if c = 124 ∧ e = 35 then nestL (d - 1) l else nestL d (e :: l) := by
 obtain ⟨k, rfl⟩ : ∃ k, d = k + 1 := ⟨d - 1, by omega⟩
 rfl
theorem two_no {x y c d : UInt8} (h : ¬ (x = c ∧ y = d)) : ((c == x) && (d == y)) = false := by
 cases h1 : (c == x)
 · rfl
 · cases h2 : (d == y)
   · rfl
   · exact absurd ⟨(eq_of_beq h1).symm, (eq_of_beq h2).symm⟩ h
theorem two_yes {x y c d : UInt8} (h : x = c ∧ y = d) : ((c == x) && (d == y)) = true := by rw [h.1, h.2, beq_self_eq_true, beq_self_eq_true]; rfl
set_option maxHeartbeats 8000000 in
set_option maxRecDepth 100000 in
theorem skipNestedP (w : World) (g : Nat) (s : ByteArray) (i : Nat) (h : Scn w g s i) (hi : i + 2 ≤ s.size) (hs : s.size ≤ 6000) :
 Calls Tryz.prog 76 #[.pointer (some ⟨g, 0, none⟩)] w (OutO w g s (nestL 1 ((LA s).drop (i + 2)))) := by
 obtain ⟨R, hR⟩ : ∃ R, nestL 1 ((LA s).drop (i + 2)) = R := ⟨_, rfl⟩
 rw [hR]
 have HE := Lib.hid (ScW.start h)
 have HR := Lib.hid hR
 have c1 := h.c1
 have cf := h.fr
 clear h hR
 go_enter Tryz.func76, Tryz.ntmps76
 go_wp2_with fail
 clear c1 cf
 go_loopw [2] (fun v wr => ∃ (i d : Nat), i ≤ s.size ∧ v = .int .i64 d ∧ Hid (NeW w wr g s R i d)) (fun _ wr => s.size + 1 - posW g wr)
 case atStart => exact ⟨i + 2, 1, hi, rfl, HE.out.set _ _ (by go_num), by omega, HR.out⟩
 case round =>
  clear HE HR
  obtain ⟨j, d, hj, rfl, hE⟩ := hrel
  obtain ⟨wo, rfl⟩ : ∃ wo : World, wo = wr := ⟨_, rfl⟩
  obtain ⟨hE, hd, hR⟩ := hE.out
  have HP := Lib.hid hE.1.posW
  have HE := Lib.hid hE
  clear hE
  by_cases h0 : (0 : Int) < (d : Int)
  · have hd0 : 0 < d := by omega
    rcases la_cases s hj with ⟨rfl, hl⟩ | ⟨hlt, hl⟩
    · have HA1 : Hid (Lib.hasPrefix ((LA s).drop s.size) (LA ⟨#[35, 124]⟩) = false) := by show _ = _; rw [hl]; rfl
      have HA2 : Hid (Lib.hasPrefix ((LA s).drop s.size) (LA ⟨#[124, 35]⟩) = false) := by show _ = _; rw [hl]; rfl
      rw [hl, nest_nil d hd0] at hR
      have HR := Lib.hid hR
      clear hR hl
      go_wp2_with fail
      refine (atP wo g s _ HE.out.1 hj _ _ HA1.out).mono ?_
      rintro e w1 ⟨rfl, hq⟩
      replace HE := Lib.hid (HE.out.q hq)
      clear hq
      go_wp2_with fail
      refine (atP w1 g s _ HE.out.1 hj _ _ HA2.out).mono ?_
      rintro e w2 ⟨rfl, hq⟩
      replace HE := Lib.hid (HE.out.q hq)
      clear hq
      go_wp2_with fail
      refine (peekEnd w2 g s HE.out.1).mono ?_
      rintro e w3 ⟨rfl, hb⟩
      exact ⟨rfl, OutO.none_ HR.out HE.out hb⟩
    · rcases la_cases s (show j + 1 ≤ s.size from hlt) with ⟨hend, hl2⟩ | ⟨hlt2, hl2⟩
      · rw [hl, hl2, nest_one d hd0] at hR
        have HR2 : Hid (nestL d ((LA s).drop (j + 1)) = R) := by show _ = _; rw [hl2, nest_nil d hd0]; exact hR
        have HA1 : Hid (Lib.hasPrefix ((LA s).drop j) (LA ⟨#[35, 124]⟩) = false) := by show _ = _; rw [hl, hl2]; exact pre2_one _ _ _
        have HA2 : Hid (Lib.hasPrefix ((LA s).drop j) (LA ⟨#[124, 35]⟩) = false) := by show _ = _; rw [hl, hl2]; exact pre2_one _ _ _
        clear hR hl hl2 hend
        go_wp2_with fail
        refine (atP wo g s _ HE.out.1 hj _ _ HA1.out).mono ?_
        rintro e w1 ⟨rfl, hq⟩
        replace HE := Lib.hid (HE.out.q hq)
        clear hq
        go_wp2_with fail
        refine (atP w1 g s _ HE.out.1 hj _ _ HA2.out).mono ?_
        rintro e w2 ⟨rfl, hq⟩
        replace HE := Lib.hid (HE.out.q hq)
        clear hq
        go_wp2_with fail
        refine (peekP w2 g s j HE.out.1 hlt).mono ?_
        rintro e w3 ⟨rfl, hq⟩
        replace HE := Lib.hid (HE.out.q hq)
        clear hq
        have c1 := HE.out.1.c1
        have cf := HE.out.1.fr
        go_wp2
        clear c1 cf
        go_roundw
        case rel => exact ⟨j + 1, d, hlt, rfl, HE.out.set _ _ (by go_num), by omega, HR2.out⟩
        case measure =>
         rw [HP.out, (HE.out.set _ (j + 1) (by go_num)).1.posW]
         omega
      · rw [hl, hl2, nest_cons d hd0] at hR
        have hp1 : Lib.hasPrefix ((LA s).drop j) (LA ⟨#[35, 124]⟩) = (((35 : UInt8) == s[j]) && ((124 : UInt8) == s[j + 1])) := by rw [hl, hl2]; exact pre2 _ _ _ _ _
        have hp2 : Lib.hasPrefix ((LA s).drop j) (LA ⟨#[124, 35]⟩) = (((124 : UInt8) == s[j]) && ((35 : UInt8) == s[j + 1])) := by rw [hl, hl2]; exact pre2 _ _ _ _ _
        by_cases h1 : s[j] = 35 ∧ s[j + 1] = 124
        · rw [two_yes h1] at hp1
          rw [if_pos h1] at hR
          have HA1 := Lib.hid hp1
          have HR := Lib.hid hR
          clear hp1 hp2 hR hl hl2 h1
          go_wp2_with fail
          refine (atP wo g s _ HE.out.1 hj _ _ HA1.out).mono ?_
          rintro e w1 ⟨rfl, hq⟩
          replace HE := Lib.hid (HE.out.q hq)
          clear hq
          have c1 := HE.out.1.c1
          have cf := HE.out.1.fr
          go_wp2
          clear c1 cf
          go_roundw
          case rel => exact ⟨j + 2, d + 1, by omega, by go_num, HE.out.set _ _ (by go_num), by omega, HR.out⟩
          case measure =>
           rw [HP.out, (HE.out.set _ (j + 2) (by go_num)).1.posW]
           omega
        · rw [two_no h1] at hp1
          rw [if_neg h1] at hR
          have HA1 := Lib.hid hp1
          by_cases h2 : s[j] = 124 ∧ s[j + 1] = 35
          · rw [two_yes h2] at hp2
            rw [if_pos h2] at hR
            have HA2 := Lib.hid hp2
            have HR := Lib.hid hR
            clear hp1 hp2 hR hl hl2 h1 h2
            go_wp2_with fail
            refine (atP wo g s _ HE.out.1 hj _ _ HA1.out).mono ?_
            rintro e w1 ⟨rfl, hq⟩
            replace HE := Lib.hid (HE.out.q hq)
            clear hq
            go_wp2_with fail
            refine (atP w1 g s _ HE.out.1 hj _ _ HA2.out).mono ?_
            rintro e w2 ⟨rfl, hq⟩
            replace HE := Lib.hid (HE.out.q hq)
            clear hq
            have c1 := HE.out.1.c1
            have cf := HE.out.1.fr
            go_wp2
            clear c1 cf
            go_roundw
            case rel => exact ⟨j + 2, d - 1, by omega, by go_num, HE.out.set _ _ (by go_num), by omega, HR.out⟩
            case measure =>
             rw [HP.out, (HE.out.set _ (j + 2) (by go_num)).1.posW]
             omega
          · rw [two_no h2] at hp2
            rw [if_neg h2, ← hl2] at hR
            have HA2 := Lib.hid hp2
            have HR := Lib.hid hR
            clear hp1 hp2 hR hl hl2 h1 h2
            go_wp2_with fail
            refine (atP wo g s _ HE.out.1 hj _ _ HA1.out).mono ?_
            rintro e w1 ⟨rfl, hq⟩
            replace HE := Lib.hid (HE.out.q hq)
            clear hq
            go_wp2_with fail
            refine (atP w1 g s _ HE.out.1 hj _ _ HA2.out).mono ?_
            rintro e w2 ⟨rfl, hq⟩
            replace HE := Lib.hid (HE.out.q hq)
            clear hq
            go_wp2_with fail
            refine (peekP w2 g s j HE.out.1 hlt).mono ?_
            rintro e w3 ⟨rfl, hq⟩
            replace HE := Lib.hid (HE.out.q hq)
            clear hq
            have c1 := HE.out.1.c1
            have cf := HE.out.1.fr
            go_wp2
            clear c1 cf
            go_roundw
            case rel => exact ⟨j + 1, d, hlt, rfl, HE.out.set _ _ (by go_num), by omega, HR.out⟩
            case measure =>
             rw [HP.out, (HE.out.set _ (j + 1) (by go_num)).1.posW]
             omega
  · have hd0 : d = 0 := by omega
    subst hd0
    rw [nest_zero] at hR
    have HR := Lib.hid hR
    clear hR
    go_wp2
    go_end0
    exact OutO.some_ hj HR.out HE.out
theorem blank_eq (c : UInt8) : ((c.toNat : Int) == 32 || (c.toNat : Int) == 9 || (c.toNat : Int) == 10 || (c.toNat : Int) == 13) = blankB c := by
 have h : ((List.range 256).all fun n => (((UInt8.ofNat n).toNat : Int) == 32 || ((UInt8.ofNat n).toNat : Int) == 9 || ((UInt8.ofNat n).toNat : Int) == 10 || ((UInt8.ofNat n).toNat : Int) == 13) == blankB (UInt8.ofNat n)) = true := by kernel_rfl
 have := List.all_eq_true.1 h c.toNat (List.mem_range.2 c.toNat_lt)
 rw [UInt8.ofNat_toNat] at this
 exact eq_of_beq this
theorem blankP (c : UInt8) (w : World) : Calls Tryz.prog 72 #[.int .u8 (c.toNat : Int)] w fun e w' => e = .returned (.bool (blankB c)) ∧ w = w' := isBlankP _ _ (blank_eq c) w
theorem len_drop {s : ByteArray} {j : Nat} {r : List UInt8} (hj : j ≤ s.size) (h : (LA s).drop j = r) : j = s.size - r.length := by
 have := congrArg List.length h
 rw [List.length_drop, la_length] at this
 omega
def SkW (w wr : World) (g : Nat) (s : ByteArray) (R : Option (List UInt8)) (i : Nat) : Prop := ScW w wr g s i ∧ skipL ((LA s).drop i) = R
set_option maxHeartbeats 8000000 in
set_option maxRecDepth 100000 in
theorem skipP (w : World) (g : Nat) (s : ByteArray) (i : Nat) (h : Scn w g s i) (hi : i ≤ s.size) (hs : s.size ≤ 6000) :
 Calls Tryz.prog 44 #[.pointer (some ⟨g, 0, none⟩)] w (OutO w g s (skipL ((LA s).drop i))) := by
 obtain ⟨R, hR⟩ : ∃ R, skipL ((LA s).drop i) = R := ⟨_, rfl⟩
 rw [hR]
 have H0 : Hid (SkW w w g s R i) := ⟨ScW.start h, hR⟩
 clear h hR
 go_enter Tryz.func44, Tryz.ntmps44
 go_wp2_with fail
 go_loopw [] (fun wr => ∃ (i : Nat), i ≤ s.size ∧ Hid (SkW w wr g s R i)) (fun wr => s.size + 1 - posW g wr)
 case atStart => exact ⟨i, hi, H0⟩
 case round =>
  clear H0
  obtain ⟨j, hj, hE⟩ := hrel
  obtain ⟨wo, rfl⟩ : ∃ wo : World, wo = wr := ⟨_, rfl⟩
  obtain ⟨hE, hR⟩ := hE.out
  have HP := Lib.hid hE.1.posW
  have HE := Lib.hid hE
  clear hE
  rcases la_cases s hj with ⟨rfl, hl⟩ | ⟨hlt, hl⟩
  · rw [hl, skipL_nil, ← hl] at hR
    have HR := Lib.hid hR
    clear hR hl
    go_wp2_with fail
    refine (endedP wo g s _ HE.out.1).mono ?_
    rintro e w1 ⟨rfl, hq⟩
    rw [eq_yes]
    replace HE := Lib.hid (HE.out.q hq)
    clear hq
    go_wp2
    go_end0
    exact OutO.some_ hj HR.out HE.out
  · have HN := Lib.hid (eq_no hlt)
    rw [hl, skipL_cons] at hR
    cases hb : blankB s[j] with
    | true =>
     rw [if_pos hb] at hR
     have HR := Lib.hid hR
     have HB := Lib.hid hb
     clear hR hl hb
     go_wp2_with fail
     refine (endedP wo g s _ HE.out.1).mono ?_
     rintro e w1 ⟨rfl, hq⟩
     rw [HN.out]
     replace HE := Lib.hid (HE.out.q hq)
     clear hq
     go_wp2_with fail
     refine (peekP w1 g s j HE.out.1 hlt).mono ?_
     rintro e w2 ⟨rfl, hq⟩
     replace HE := Lib.hid (HE.out.q hq)
     clear hq
     go_wp2_with fail
     refine (blankP s[j] w2).mono ?_
     rintro e w0 ⟨rfl, rfl⟩
     rw [HB.out]
     have c1 := HE.out.1.c1
     have cf := HE.out.1.fr
     go_wp2
     clear c1 cf
     go_roundw
     case rel => exact ⟨j + 1, hlt, HE.out.set _ _ (by go_num), HR.out⟩
     case measure =>
      rw [HP.out, (HE.out.set _ (j + 1) (by go_num)).1.posW]
      omega
    | false =>
     rw [if_neg (by rw [hb]; simp)] at hR
     have HB := Lib.hid hb
     clear hb
     have hp1 : Lib.hasPrefix ((LA s).drop j) (LA ⟨#[59]⟩) = ((59 : UInt8) == s[j]) := by rw [hl]; exact pre1 _ _ _
     by_cases h1 : s[j] = 59
     · rw [if_pos h1] at hR
       rw [h1, beq_self_eq_true] at hp1
       have HA1 := Lib.hid hp1
       have hln : lineL ((LA s).drop j) = lineL ((LA s).drop (j + 1)) := by rw [hl, lineL, if_neg (by rw [h1]; decide)]
       have hle := lineL_le ((LA s).drop (j + 1))
       rw [← hln] at hR hle
       rw [List.length_drop, la_length] at hle
       have HR := Lib.hid hR
       have HLE := Lib.hid hle
       clear hR hl h1 hp1 hln hle
       go_wp2_with fail
       refine (endedP wo g s _ HE.out.1).mono ?_
       rintro e w1 ⟨rfl, hq⟩
       rw [HN.out]
       replace HE := Lib.hid (HE.out.q hq)
       clear hq
       go_wp2_with fail
       refine (peekP w1 g s j HE.out.1 hlt).mono ?_
       rintro e w2 ⟨rfl, hq⟩
       replace HE := Lib.hid (HE.out.q hq)
       clear hq
       go_wp2_with fail
       refine (blankP s[j] w2).mono ?_
       rintro e w0 ⟨rfl, rfl⟩
       rw [HB.out]
       go_wp2_with fail
       refine (atP w2 g s _ HE.out.1 hj _ _ HA1.out).mono ?_
       rintro e w3 ⟨rfl, hq⟩
       replace HE := Lib.hid (HE.out.q hq)
       clear hq
       go_wp2_with fail
       refine (skipLineP w3 g s j HE.out.1 hj hs).mono ?_
       rintro e w4 ⟨j', hj', hr, rfl, hsc, hbt⟩
       have HD := Lib.hid (len_drop hj' hr)
       have HR2 : Hid (SkW w w4 g s R j') := ⟨⟨hsc, HE.out.2.trans hbt⟩, by rw [hr]; exact HR.out⟩
       clear hr hsc hbt
       go_wp2
       go_roundw
       case rel => exact ⟨j', hj', HR2⟩
       case measure =>
        rw [HP.out, HR2.out.1.1.posW]
        have := HD.out
        have := HLE.out
        omega
     · rw [if_neg h1] at hR
       rw [beq_eq_false_iff_ne.2 (fun h => h1 h.symm)] at hp1
       have HA1 := Lib.hid hp1
       clear hp1 h1
       rcases la_cases s (show j + 1 ≤ s.size from hlt) with ⟨hend, hl2⟩ | ⟨hlt2, hl2⟩
       · rw [hl2] at hR
         have HR : Hid (some ((LA s).drop j) = R) := by show _ = _; rw [hl, hl2]; exact hR
         have HA2 : Hid (Lib.hasPrefix ((LA s).drop j) (LA ⟨#[35, 124]⟩) = false) := by show _ = _; rw [hl, hl2]; exact pre2_one _ _ _
         clear hR hl hl2 hend
         go_wp2_with fail
         refine (endedP wo g s _ HE.out.1).mono ?_
         rintro e w1 ⟨rfl, hq⟩
         rw [HN.out]
         replace HE := Lib.hid (HE.out.q hq)
         clear hq
         go_wp2_with fail
         refine (peekP w1 g s j HE.out.1 hlt).mono ?_
         rintro e w2 ⟨rfl, hq⟩
         replace HE := Lib.hid (HE.out.q hq)
         clear hq
         go_wp2_with fail
         refine (blankP s[j] w2).mono ?_
         rintro e w0 ⟨rfl, rfl⟩
         rw [HB.out]
         go_wp2_with fail
         refine (atP w2 g s _ HE.out.1 hj _ _ HA1.out).mono ?_
         rintro e w3 ⟨rfl, hq⟩
         replace HE := Lib.hid (HE.out.q hq)
         clear hq
         go_wp2_with fail
         refine (atP w3 g s _ HE.out.1 hj _ _ HA2.out).mono ?_
         rintro e w4 ⟨rfl, hq⟩
         replace HE := Lib.hid (HE.out.q hq)
         clear hq
         go_wp2
         go_end0
         exact OutO.some_ hj HR.out HE.out
       · rw [hl2] at hR
         have hp2 : Lib.hasPrefix ((LA s).drop j) (LA ⟨#[35, 124]⟩) = (((35 : UInt8) == s[j]) && ((124 : UInt8) == s[j + 1])) := by rw [hl, hl2]; exact pre2 _ _ _ _ _
         by_cases h2 : s[j] = 35 ∧ s[j + 1] = 124
         · rw [two_yes h2] at hp2
           simp only [if_pos h2] at hR
           have HA2 := Lib.hid hp2
           have HR := Lib.hid hR
           clear hp2 hR hl hl2 h2
           go_wp2_with fail
           refine (endedP wo g s _ HE.out.1).mono ?_
           rintro e w1 ⟨rfl, hq⟩
           rw [HN.out]
           replace HE := Lib.hid (HE.out.q hq)
           clear hq
           go_wp2_with fail
           refine (peekP w1 g s j HE.out.1 hlt).mono ?_
           rintro e w2 ⟨rfl, hq⟩
           replace HE := Lib.hid (HE.out.q hq)
           clear hq
           go_wp2_with fail
           refine (blankP s[j] w2).mono ?_
           rintro e w0 ⟨rfl, rfl⟩
           rw [HB.out]
           go_wp2_with fail
           refine (atP w2 g s _ HE.out.1 hj _ _ HA1.out).mono ?_
           rintro e w3 ⟨rfl, hq⟩
           replace HE := Lib.hid (HE.out.q hq)
           clear hq
           go_wp2_with fail
           refine (atP w3 g s _ HE.out.1 hj _ _ HA2.out).mono ?_
           rintro e w4 ⟨rfl, hq⟩
           replace HE := Lib.hid (HE.out.q hq)
           clear hq
           go_wp2_with fail
           refine (skipNestedP w4 g s j HE.out.1 hlt2 hs).mono ?_
           cases hn : nestL 1 ((LA s).drop (j + 1 + 1)) with
           | none =>
            have HR2 : Hid (none = R) := by have := HR.out; rw [hn] at this; exact this
            clear hn
            rintro e w5 ⟨rfl, hbt⟩
            exact ⟨rfl, OutO.none_ HR2.out HE.out hbt⟩
           | some r =>
            have HR2 : Hid (skipL r = R) := by have := HR.out; rw [hn] at this; exact this
            have hle := nestL_le _ _ _ hn
            rw [List.length_drop, la_length] at hle
            have HLE := Lib.hid hle
            clear hn hle
            rintro e w5 ⟨j', hj', hr, rfl, hsc, hbt⟩
            have HD := Lib.hid (len_drop hj' hr)
            have HR3 : Hid (SkW w w5 g s R j') := ⟨⟨hsc, HE.out.2.trans hbt⟩, by rw [hr]; exact HR2.out⟩
            clear hr hsc hbt
            go_wp2
            go_roundw
            case rel => exact ⟨j', hj', HR3⟩
            case measure =>
             rw [HP.out, HR3.out.1.1.posW]
             have := HD.out
             have := HLE.out
             omega
         · rw [two_no h2] at hp2
           simp only [if_neg h2] at hR
           rw [← hl2, ← hl] at hR
           have HA2 := Lib.hid hp2
           have HR := Lib.hid hR
           clear hp2 hR hl hl2 h2
           go_wp2_with fail
           refine (endedP wo g s _ HE.out.1).mono ?_
           rintro e w1 ⟨rfl, hq⟩
           rw [HN.out]
           replace HE := Lib.hid (HE.out.q hq)
           clear hq
           go_wp2_with fail
           refine (peekP w1 g s j HE.out.1 hlt).mono ?_
           rintro e w2 ⟨rfl, hq⟩
           replace HE := Lib.hid (HE.out.q hq)
           clear hq
           go_wp2_with fail
           refine (blankP s[j] w2).mono ?_
           rintro e w0 ⟨rfl, rfl⟩
           rw [HB.out]
           go_wp2_with fail
           refine (atP w2 g s _ HE.out.1 hj _ _ HA1.out).mono ?_
           rintro e w3 ⟨rfl, hq⟩
           replace HE := Lib.hid (HE.out.q hq)
           clear hq
           go_wp2_with fail
           refine (atP w3 g s _ HE.out.1 hj _ _ HA2.out).mono ?_
           rintro e w4 ⟨rfl, hq⟩
           replace HE := Lib.hid (HE.out.q hq)
           clear hq
           go_wp2
           go_end0
           exact OutO.some_ hj HR.out HE.out
set_option maxHeartbeats 8000000
set_option maxRecDepth 100000

theorem encL_cons (n : Nat) (m : UInt8) (acc : List UInt8) (c : UInt8) (l : List UInt8) : encL n m acc (c :: l) = if c = m then .ok acc l else if c = 92 then
 (match l with
 | [] => .bad 11 n
 | d :: l' => if d = m ∨ d = 92 then encL n m (acc ++ [d]) l' else .bad 12 (posL n (c :: d :: l')))
 else encL n m (acc ++ [c]) l := by cases l <;> rfl
theorem cb_append5 (l m : List UInt8) : cb (l ++ m) = cb l ++ cb m := by unfold cb; rw [List.map_append]
structure Kp5 (B : Nat) (w w' : World) : Prop where
 bel : Below B w w'
 keep : ∀ k, k < w.heap.size → (∀ cur fr, w.heap[k]? ≠ some (.cells cur 5 fr)) → w'.heap[k]? = w.heap[k]?
theorem Kp5.trans {B : Nat} {a b c : World} (h : Kp5 B a b) (h' : Kp5 B b c) : Kp5 B a c :=
 ⟨h.bel.trans h'.bel, fun k hk hn => by
  have e := h.keep k hk hn
  exact (h'.keep k (Nat.lt_of_lt_of_le hk h.bel.size) (fun cur fr he => hn cur fr (e ▸ he))).trans e⟩
theorem Kp5.of {B : Nat} {a b : World} (h : Below a.heap.size a b) (hB : B ≤ a.heap.size) : Kp5 B a b := ⟨h.mono hB, fun k hk _ => h.block k hk⟩
theorem Kp5.refl (B : Nat) (w : World) : Kp5 B w w := ⟨Below.refl _ _, fun _ _ _ => rfl⟩
theorem Kp5.next {B : Nat} {w a b : World} (h : Kp5 B w a) (hb : Below a.heap.size a b) (hB : B ≤ w.heap.size) : Kp5 B w b := h.trans (Kp5.of hb (Nat.le_trans hB h.bel.size))
theorem OwnB.grown5 {w w' : World} {B : Nat} {v : Value} {l : List UInt8} (h : OwnB w B v l) (hg : w.grownBy w' v.ownBlock) (hB : B ≤ w.heap.size) : Kp5 B w w' := by
 have hlt : ∀ k, v.ownBlock = some k → B ≤ k := fun k hk => (h.row.lt k hk).1
 refine ⟨(Below.refl B w).grown hg hB hlt, fun k hk hn => hg.block k hk ?_⟩
 intro e
 rcases h.2 with ⟨rfl, _⟩ | ⟨g, cap, cur, rfl, _, hh, _⟩
 · cases e
 · injection e with e
   exact hn cur (0, 0) (e ▸ hh)
theorem OwnB.kept5 {w w' : World} {B : Nat} {v : Value} {l : List UInt8} (h : OwnB w B v l) (hb : Below w.heap.size w w') : OwnB w' B v l := by
 refine ⟨h.1, ?_⟩
 rcases h.2 with hn | ⟨g, cap, cur, rfl, h1, hh, h2⟩
 · exact .inl hn
 · exact .inr ⟨g, cap, cur, rfl, h1, (hb.block g (Array.getElem?_eq_some_iff.1 hh).1).trans hh, h2⟩
theorem appByte5 {ops : Array Oper} {rest : List Oper} {o : Oper} {a : Act} {w : World} {Q : Exit → Act → World → Prop} (hgd : o.guard = none) (sl x : Operand)
 (ho : o.op = .call { callee := .builtin .append, args := #[sl, x], argTypes := #[127, 127] }) {B : Nat} {v : Value} {l : List UInt8} (hs : a.eval sl = v) (hown : OwnB w B v l) (b : UInt8) (g c : Nat) (hx : a.eval x = .slice (some ⟨g, 0, none⟩) 1 c)
 (hg : w.heap[g]? = some (.cells #[.int .u8 (b.toNat : Int)] 5 (0, 0))) (hl : l.length ≤ 1000000000000) (hB : B ≤ w.heap.size)
 (h : ∀ v' w', OwnB w' B v' (l ++ [b]) → Kp5 B w w' → wpList Tryz.prog ops Q rest (a.put o.dst v') w') : wpList Tryz.prog ops Q (o :: rest) a w := by
 obtain ⟨i0, hi, hz0, hz1, hz2⟩ := info_parts info8
 refine wpList_append_own w hgd sl x 127 ho B 5 i0 (.int .u8 0) 1 1 Tryz.underlying127 hi hz0 hz1 hz2 rfl (by decide) v l.length (cb l) hs hown.row ⟨g, 0, none⟩ 1 c [.int .u8 (b.toNat : Int)] hx rfl (fun j u hj => ?_) (fun u hu => ?_) (by unfold maxLen; omega) (by omega) hB ?_
 · match j, hj with
   | 0, hj =>
    simp at hj
    subst hj
    show w.cell? ⟨g, _, none⟩ = _
    rw [cell_of_row _ _ _ _ _ _ hg]
    rfl
 · simp at hu
   subst hu
   rfl
 · intro v' w' h1 h2 _
   have h3 : w'.ownsRow B 5 1 v' (l.length + 1) (cb (l ++ [b])) := by rw [cb_append5]; exact h1
   exact h v' w' (OwnB.of_cells h3) (hown.grown5 h2 hB)

theorem Scn.kp {w w' : World} {g B : Nat} {s : ByteArray} {i : Nat} (h : Scn w g s i) (hk : Kp5 B w w') : Scn w' g s i := (hk.keep g h.lt (fun cur fr e => by
 have h' := h
 unfold Scn at h'
 rw [h'] at e
 injection e with e
 injection e with _ e _
 exact absurd e (by decide))).trans h
theorem ScW.kp {w wr w1 : World} {g : Nat} {s : ByteArray} {i : Nat} (h : ScW w wr g s i) (hk : Kp5 w.heap.size wr w1) : ScW w w1 g s i :=
 ⟨h.1.kp hk, ⟨hk.bel.os.trans h.2.os, hk.bel.tape.trans h.2.tape, hk.bel.output.trans h.2.output, Nat.le_trans h.2.size hk.bel.size, fun k hk1 hk2 => (hk.bel.block k hk1).trans (h.2.block k hk1 hk2)⟩⟩
theorem OwnB.set5 {w : World} {B g : Nat} {v : Value} {l : List UInt8} (h : OwnB w B v l) (hg : g < B) (i : Nat) (u : Value) : OwnB (w.setCell ⟨g, i, none⟩ u) B v l :=
 ownsRow_setCell_below (a := ⟨g, i, none⟩) h.row hg u
theorem OwnB.but5 {w w' : World} {B g : Nat} {v : Value} {l : List UInt8} (h : OwnB w B v l) (hb : But g w w') (hB : B ≤ w.heap.size) (hg : g < B) : OwnB w' B v l := by
 refine ⟨h.1, ?_⟩
 rcases h.2 with hn | ⟨k, cap, cur, rfl, h1, hh, h2⟩
 · exact .inl hn
 · exact .inr ⟨k, cap, cur, rfl, h1, (hb.block k (Array.getElem?_eq_some_iff.1 hh).1 (by omega)).trans hh, h2⟩
theorem convOwn (w : World) (B : Nat) (v : Value) (l : List UInt8) (h : OwnB w B v l) : (convert 127 9 v).run Tryz.prog w = .ok (.string (BA l)) w := by
 by_cases hl : l = []
 · subst hl
   rcases h.2 with ⟨rfl, _⟩ | ⟨g, cap, cur, rfl, _⟩
   · rw [run_convert_bytes_string w 127 9 5 none 0 0 Tryz.underlying127 Tryz.underlying5 Tryz.underlying9]
     rfl
   · exact conv_back w g cap 0 B [] rfl h.row
 · obtain ⟨g, c, rfl⟩ := h.form hl
   exact conv_back w g c l.length B l rfl h.row
theorem skipEscapeP (w : World) (g : Nat) (s : ByteArray) (i : Nat) (m : UInt8) (h : Scn w g s i) (hs : s.size ≤ 6000) (hi : i + 1 < s.size) (hm : s[i + 1] = m ∨ s[i + 1] = 92) :
 Calls Tryz.prog 99 #[.pointer (some ⟨g, 0, none⟩), .int .u8 (m.toNat : Int)] w (Ret5 w g s (i + 1) (.tuple #[])) := by
 have HE := Lib.hid (ScW.start h)
 have c1 := h.c1
 have cf := h.fr
 clear h
 have hx : ((s[i + 1].toNat : Int) != (m.toNat : Int)) = false ∨ (((s[i + 1].toNat : Int) != (m.toNat : Int)) = true ∧ ((s[i + 1].toNat : Int) != 92) = false) := by
  by_cases h1 : s[i + 1] = m
  · left; rw [h1]; simp
  · right
    have h2 : s[i + 1] = 92 := hm.resolve_left h1
    refine ⟨?_, by rw [h2]; rfl⟩
    rw [bne_iff_ne]
    intro e
    exact h1 (UInt8.toNat_inj.1 (by omega))
 rcases hx with hx | ⟨hx, hy⟩
 all_goals
  go_enter Tryz.func99, Tryz.ntmps99
  go_wp2_with fail
  clear c1 cf
  replace HE := Lib.hid (HE.out.set ((i : Int) + 1) (i + 1) rfl)
  refine (peekP _ g s (i + 1) (HE.out.1) hi).mono ?_
  rintro e w1 ⟨rfl, hq⟩
  replace HE := Lib.hid (HE.out.q hq)
  clear hq
  go_wp2
  go_end0
  exact ⟨rfl, HE.out.1, HE.out.2⟩
theorem skipEscapeBad (w : World) (g : Nat) (s : ByteArray) (i : Nat) (m : UInt8) (h : Scn w g s i) (hs : s.size ≤ 6000) (hi : i + 1 < s.size) (hm : ¬ (s[i + 1] = m ∨ s[i + 1] = 92)) :
 Calls Tryz.prog 99 #[.pointer (some ⟨g, 0, none⟩), .int .u8 (m.toNat : Int)] w (PanS w g 12 i) := by
 have HE := Lib.hid (ScW.start h)
 have c1 := h.c1
 have cf := h.fr
 clear h
 have hx : ((s[i + 1].toNat : Int) != (m.toNat : Int)) = true := by
  rw [bne_iff_ne]
  intro e
  exact hm (.inl (UInt8.toNat_inj.1 (by omega)))
 have hy : ((s[i + 1].toNat : Int) != 92) = true := by
  rw [bne_iff_ne]
  intro e
  exact hm (.inr (UInt8.toNat_inj.1 (by show s[i + 1].toNat = 92; omega)))
 go_enter Tryz.func99, Tryz.ntmps99
 go_wp2_with fail
 clear c1 cf
 replace HE := Lib.hid (HE.out.set ((i : Int) + 1) (i + 1) rfl)
 refine (peekP _ g s (i + 1) (HE.out.1) hi).mono ?_
 rintro e w1 ⟨rfl, hq⟩
 replace HE := Lib.hid (HE.out.q hq)
 clear hq
 go_wp2_with fail
 refine (reportP 12 _ w1 g).mono ?_
 rintro e w2 ⟨rfl, hb⟩
 exact ⟨rfl, rfl, HE.out.2.trans hb⟩
theorem skipEscapeEnd (w : World) (g : Nat) (s : ByteArray) (i : Nat) (m : UInt8) (h : Scn w g s i) (hs : s.size ≤ 6000) (hi : i + 1 = s.size) :
 Calls Tryz.prog 99 #[.pointer (some ⟨g, 0, none⟩), .int .u8 (m.toNat : Int)] w (PanS w g 11 s.size) := by
 have HE := Lib.hid (ScW.start h)
 have c1 := h.c1
 have cf := h.fr
 clear h
 go_enter Tryz.func99, Tryz.ntmps99
 go_wp2_with fail
 clear c1 cf
 replace HE := Lib.hid (HE.out.set ((i : Int) + 1) (i + 1) rfl)
 rw [hi] at HE
 refine (peekEnd _ g s (HE.out.1)).mono ?_
 rintro e w2 ⟨rfl, hb⟩
 exact ⟨rfl, rfl, HE.out.2.trans hb⟩
def OutB (w : World) (g : Nat) (s : ByteArray) (R : Sc (List UInt8)) (e : Ending) (w' : World) : Prop := match R with
 | .ok b r => RetR5 w g s r (.string (BA b)) e w'
 | .bad x p => PanS w g x p e w'
theorem OutB.ok_ {w wr : World} {g : Nat} {s : ByteArray} {R : Sc (List UInt8)} {b : List UInt8} {j : Nat} (hj : j ≤ s.size) (hR : .ok b ((LA s).drop j) = R) (h : ScW w wr g s j) : OutB w g s R (.returned (.string (BA b))) wr := by
 subst hR
 exact ⟨j, hj, rfl, rfl, h.1, h.2⟩
theorem OutB.bad_ {w wr w' : World} {g : Nat} {s : ByteArray} {R : Sc (List UInt8)} {x p : Int} {j : Nat} (hR : .bad x p = R) (h : ScW w wr g s j) (hb : But g wr w') : OutB w g s R (.panicked [{ v := errV x p, recovered := false }]) w' := by
 subst hR
 exact ⟨rfl, h.2.trans hb⟩
def EnW (w wr : World) (g : Nat) (s : ByteArray) (m : UInt8) (R : Sc (List UInt8)) (i : Nat) (v : Value) (acc : List UInt8) : Prop :=
 ScW w wr g s i ∧ OwnB wr w.heap.size v acc ∧ encL s.size m acc ((LA s).drop i) = R ∧ acc.length ≤ i
theorem OwnB.q5 {w w1 : World} {B : Nat} {v : Value} {l : List UInt8} (h : OwnB w B v l) (hq : ∃ n, w1 = w.drewN n) : OwnB w1 B v l := by
 obtain ⟨n, rfl⟩ := hq
 exact h
theorem byte_ne {a b : UInt8} : ((a.toNat : Int) != (b.toNat : Int)) = (a != b) := by
 by_cases h : a = b
 · rw [h]; simp
 · have : (a.toNat : Int) ≠ (b.toNat : Int) := fun e => h (UInt8.toNat_inj.1 (by omega))
   rw [bne_iff_ne.2 this, bne_iff_ne.2 h]
theorem byte_eq {a b : UInt8} : ((a.toNat : Int) == (b.toNat : Int)) = (a == b) := by
 by_cases h : a = b
 · rw [h]; simp
 · have : (a.toNat : Int) ≠ (b.toNat : Int) := fun e => h (UInt8.toNat_inj.1 (by omega))
   rw [beq_eq_false_iff_ne.2 this, beq_eq_false_iff_ne.2 h]
theorem betweenP (w : World) (g : Nat) (s : ByteArray) (i : Nat) (m : UInt8) (h : Scn w g s i) (hi : i < s.size) (hs : s.size ≤ 6000) :
 Calls Tryz.prog 79 #[.pointer (some ⟨g, 0, none⟩), .int .u8 (m.toNat : Int)] w (OutB w g s (encL s.size m [] ((LA s).drop (i + 1)))) := by
 obtain ⟨R, hR⟩ : ∃ R, encL s.size m [] ((LA s).drop (i + 1)) = R := ⟨_, rfl⟩
 rw [hR]
 have HG := Lib.hid h.lt
 have HE := Lib.hid (ScW.start h)
 have HR := Lib.hid hR
 have c1 := h.c1
 have cf := h.fr
 clear h hR
 go_enter Tryz.func79, Tryz.ntmps79
 go_wp2_with fail
 clear c1 cf
 go_loopw [5] (fun v wr => ∃ (i : Nat) (acc : List UInt8) (sl : Value), i ≤ s.size ∧ sl = v ∧ Hid (EnW w wr g s m R i sl acc)) (fun _ wr => s.size + 1 - posW g wr)
 case atStart => exact ⟨i + 1, [], _, hi, rfl, HE.out.set _ _ (by go_num), OwnB.nil_ _ _, HR.out, Nat.zero_le _⟩
 case round =>
  clear HE HR
  obtain ⟨j, acc, sl, hj, rfl, hE⟩ := hrel
  obtain ⟨wo, rfl⟩ : ∃ wo : World, wo = wr := ⟨_, rfl⟩
  obtain ⟨hE, hO, hR, hacc⟩ := hE.out
  have HP := Lib.hid hE.1.posW
  have HE := Lib.hid hE
  have HO := Lib.hid hO
  clear hE hO
  rcases la_cases s hj with ⟨rfl, hl⟩ | ⟨hlt, hl⟩
  · rw [hl, encL] at hR
    have HR := Lib.hid hR
    clear hR hl
    go_wp2_with fail
    refine (peekEnd wo g s HE.out.1).mono ?_
    rintro e w3 ⟨rfl, hb⟩
    exact ⟨rfl, OutB.bad_ HR.out HE.out hb⟩
  · rw [hl, encL_cons] at hR
    by_cases h1 : s[j] = m
    · rw [if_pos h1] at hR
      have HR := Lib.hid hR
      have hx : ((s[j].toNat : Int) != (m.toNat : Int)) = false := by rw [byte_ne, h1]; simp
      clear hR hl h1
      go_wp2_with fail
      refine (peekP wo g s j HE.out.1 hlt).mono ?_
      rintro e w1 ⟨rfl, hq⟩
      replace HE := Lib.hid (HE.out.q hq)
      replace HO := Lib.hid (HO.out.q5 hq)
      clear hq
      have c1 := HE.out.1.c1
      have cf := HE.out.1.fr
      have hcv := convOwn _ _ _ _ (HO.out.set5 HG.out 1 (.int .i64 ((j : Int) + 1)))
      go_wp2
      go_ret
      exact OutB.ok_ hlt HR.out (HE.out.set _ (j + 1) (by go_num))
    · rw [if_neg h1] at hR
      have hx : ((s[j].toNat : Int) != (m.toNat : Int)) = true := by rw [byte_ne, bne_iff_ne]; exact h1
      by_cases h2 : s[j] = 92
      · rw [if_pos h2] at hR
        have hy : ((s[j].toNat : Int) == 92) = true := by rw [h2]; rfl
        rcases la_cases s (show j + 1 ≤ s.size from hlt) with ⟨hend, hl2⟩ | ⟨hlt2, hl2⟩
        · rw [hl2] at hR
          have HR : Hid (.bad 11 s.size = R) := hR
          clear hR hl hl2 h1 h2
          go_wp2_with fail
          refine (peekP wo g s j HE.out.1 hlt).mono ?_
          rintro e w1 ⟨rfl, hq⟩
          replace HE := Lib.hid (HE.out.q hq)
          replace HO := Lib.hid (HO.out.q5 hq)
          clear hq
          go_wp2_with fail
          refine (peekP w1 g s j HE.out.1 hlt).mono ?_
          rintro e w2 ⟨rfl, hq⟩
          replace HE := Lib.hid (HE.out.q hq)
          replace HO := Lib.hid (HO.out.q5 hq)
          clear hq
          go_wp2_with fail
          refine (skipEscapeEnd w2 g s j m HE.out.1 hs hend).mono ?_
          rintro e w3 ⟨rfl, hb⟩
          exact ⟨rfl, OutB.bad_ HR.out HE.out hb⟩
        · rw [hl2] at hR
          by_cases h3 : s[j + 1] = m ∨ s[j + 1] = 92
          · have HR : Hid (encL s.size m (acc ++ [s[j + 1]]) ((LA s).drop (j + 2)) = R) := by show _ = _; rw [← hR]; exact (if_pos h3).symm
            have H3 := Lib.hid h3
            clear hR hl hl2 h1 h2 h3
            go_wp2_with fail
            refine (peekP wo g s j HE.out.1 hlt).mono ?_
            rintro e w1 ⟨rfl, hq⟩
            replace HE := Lib.hid (HE.out.q hq)
            replace HO := Lib.hid (HO.out.q5 hq)
            clear hq
            go_wp2_with fail
            refine (peekP w1 g s j HE.out.1 hlt).mono ?_
            rintro e w2 ⟨rfl, hq⟩
            replace HE := Lib.hid (HE.out.q hq)
            replace HO := Lib.hid (HO.out.q5 hq)
            clear hq
            go_wp2_with fail
            refine (skipEscapeP w2 g s j m HE.out.1 hs hlt2 H3.out).mono ?_
            rintro e w3 ⟨rfl, hsc, hbt⟩
            have HO3 : Hid (OwnB w3 w.heap.size sl acc) := HO.out.but5 hbt (HE.out.2.size) HG.out
            replace HO := HO3
            replace HE : Hid (ScW w w3 g s (j + 1)) := ⟨hsc, HE.out.2.trans hbt⟩
            clear hsc hbt HO3
            go_wp2_with fail
            refine (peekP w3 g s (j + 1) HE.out.1 hlt2).mono ?_
            rintro e w4 ⟨rfl, hq⟩
            replace HE := Lib.hid (HE.out.q hq)
            replace HO := Lib.hid (HO.out.q5 hq)
            clear hq
            have hal := Lib.hid (show Below w4.heap.size w4 (w4.alloc (.cells #[.int .u8 (s[j + 1].toNat : Int)] 5)) from Below.alloc (Below.refl _ _) (Nat.le_refl _) _)
            have hnw := Lib.hid (heap_alloc_new w4 (.cells #[.int .u8 (s[j + 1].toNat : Int)] 5))
            have hob := Lib.hid (HO.out.kept5 hal.out)
            go_wp2_with (at_builtin; refine appByte5 rfl (.tmp 23) (.tmp 26) rfl rfl hob.out s[j + 1] w4.heap.size 1 rfl hnw.out (by omega) (Nat.le_trans HE.out.2.size hal.out.size) ?_)
            intro v3 x3 h3 j3
            have k3 := (Kp5.of hal.out HE.out.2.size).trans j3
            replace HE := Lib.hid (HE.out.kp k3)
            replace HO := Lib.hid h3
            clear k3 j3 h3 hal hnw hob
            have c1 := HE.out.1.c1
            have cf := HE.out.1.fr
            go_wp2
            clear c1 cf
            go_roundw
            case rel => exact ⟨j + 2, acc ++ [s[j + 1]], _, by omega, rfl, HE.out.set _ _ (by go_num), HO.out.set5 HG.out _ _, HR.out, by rw [List.length_append]; simp only [List.length_cons, List.length_nil]; omega⟩
            case measure =>
             rw [HP.out, (HE.out.set _ (j + 2) (by go_num)).1.posW]
             omega
          · have HR : Hid (.bad 12 (j : Int) = R) := by
             show _ = _
             rw [← hR, ← posL_drop s hj, hl, hl2]
             exact (if_neg h3).symm
            have H3 := Lib.hid h3
            clear hR hl hl2 h1 h2 h3
            go_wp2_with fail
            refine (peekP wo g s j HE.out.1 hlt).mono ?_
            rintro e w1 ⟨rfl, hq⟩
            replace HE := Lib.hid (HE.out.q hq)
            replace HO := Lib.hid (HO.out.q5 hq)
            clear hq
            go_wp2_with fail
            refine (peekP w1 g s j HE.out.1 hlt).mono ?_
            rintro e w2 ⟨rfl, hq⟩
            replace HE := Lib.hid (HE.out.q hq)
            replace HO := Lib.hid (HO.out.q5 hq)
            clear hq
            go_wp2_with fail
            refine (skipEscapeBad w2 g s j m HE.out.1 hs hlt2 H3.out).mono ?_
            rintro e w3 ⟨rfl, hb⟩
            exact ⟨rfl, OutB.bad_ HR.out HE.out hb⟩
      · rw [if_neg h2] at hR
        have hy : ((s[j].toNat : Int) == 92) = false := by rw [show (92 : Int) = ((92 : UInt8).toNat : Int) from rfl, byte_eq, beq_eq_false_iff_ne]; exact h2
        have HR := Lib.hid hR
        clear hR hl h1 h2
        go_wp2_with fail
        refine (peekP wo g s j HE.out.1 hlt).mono ?_
        rintro e w1 ⟨rfl, hq⟩
        replace HE := Lib.hid (HE.out.q hq)
        replace HO := Lib.hid (HO.out.q5 hq)
        clear hq
        go_wp2_with fail
        refine (peekP w1 g s j HE.out.1 hlt).mono ?_
        rintro e w2 ⟨rfl, hq⟩
        replace HE := Lib.hid (HE.out.q hq)
        replace HO := Lib.hid (HO.out.q5 hq)
        clear hq
        go_wp2_with fail
        refine (peekP w2 g s j HE.out.1 hlt).mono ?_
        rintro e w3 ⟨rfl, hq⟩
        replace HE := Lib.hid (HE.out.q hq)
        replace HO := Lib.hid (HO.out.q5 hq)
        clear hq
        have hal := Lib.hid (show Below w3.heap.size w3 (w3.alloc (.cells #[.int .u8 (s[j].toNat : Int)] 5)) from Below.alloc (Below.refl _ _) (Nat.le_refl _) _)
        have hnw := Lib.hid (heap_alloc_new w3 (.cells #[.int .u8 (s[j].toNat : Int)] 5))
        have hob := Lib.hid (HO.out.kept5 hal.out)
        go_wp2_with (at_builtin; refine appByte5 rfl (.tmp 23) (.tmp 26) rfl rfl hob.out s[j] w3.heap.size 1 rfl hnw.out (by omega) (Nat.le_trans HE.out.2.size hal.out.size) ?_)
        intro v3 x3 h3 j3
        have k3 := (Kp5.of hal.out HE.out.2.size).trans j3
        replace HE := Lib.hid (HE.out.kp k3)
        replace HO := Lib.hid h3
        clear k3 j3 h3 hal hnw hob
        have c1 := HE.out.1.c1
        have cf := HE.out.1.fr
        go_wp2
        clear c1 cf
        go_roundw
        case rel => exact ⟨j + 1, acc ++ [s[j]], _, by omega, rfl, HE.out.set _ _ (by go_num), HO.out.set5 HG.out _ _, HR.out, by rw [List.length_append]; simp only [List.length_cons, List.length_nil]; omega⟩
        case measure =>
         rw [HP.out, (HE.out.set _ (j + 1) (by go_num)).1.posW]
         omega
set_option maxHeartbeats 400000 in
set_option maxRecDepth 100000 in
theorem digits_any (s : ByteArray) (w : World) (hs : s.size ≤ 400000000) :
 Calls Tryz.prog 119 #[.string s] w fun e w' => e = .returned (.int .i64 ((body (LA s)).length : Nat)) ∧ w = w' := by
 obtain ⟨x, hx⟩ : ∃ x, BA (body (LA s)) = x := ⟨_, rfl⟩
 have hl : Hid ((body (LA s)).length = x.size) := by show _ = _; rw [← hx]; rfl
 rw [hl.out]
 have Hx := Lib.hid hx
 clear hx
 go_enter Tryz.func119, Tryz.ntmps119
 go_wp2_with fail
 refine (split_any s _ (by unfold maxLen; omega)).mono ?_
 rintro e w' ⟨rfl, rfl⟩
 rw [Hx.out]
 go_wp2
 go_ret
 exact ⟨rfl, rfl⟩
set_option maxHeartbeats 8000000
set_option maxRecDepth 100000

def tkC (t : Tk) : Array Value := #[.int .i64 t.k, .int .i64 t.p, .string (BA t.pkg), .string (BA t.txt), .string (BA t.den)]
def tkV (t : Tk) : Value := .agg (tkC t)
def TB (W : World) (g : Nat) (c : Array Value) : Prop := W.heap[g]? = some (.cells c 68 (0, 0))
theorem TB.lt {W : World} {g : Nat} {c : Array Value} (h : TB W g c) : g < W.heap.size := Sy.blk_ltY h
theorem TB.keep {W W' : World} {g : Nat} {c : Array Value} (h : TB W g c) (hb : Below W.heap.size W W') : TB W' g c := (hb.block g h.lt).trans h
theorem TB.but {W W' : World} {g k : Nat} {c : Array Value} (h : TB W g c) (hb : But k W W') (hk : g ≠ k) : TB W' g c := (hb.block g h.lt hk).trans h
theorem TB.new (w : World) (c : Array Value) : TB (w.alloc (.cells c 68)) w.heap.size c := heap_alloc_new w _
theorem TB.set {W : World} {g : Nat} {c : Array Value} (h : TB W g c) (d : Array Value) : TB (W.setRow g d) g d := setRow_heap _ _ _ _ _ _ h
theorem TB.store {ops : Array Oper} {rest : List Oper} {o : Oper} {a : Act} {w : World} {Q : Exit → Act → World → Prop} (x y : Operand) (ho : o.op = .store 68 x y) (hgd : o.guard = none)
 (g : Nat) (t : Tk) (c : Array Value) (hc : c.size = 5) (hx : a.eval x = .pointer (some ⟨g, 0, none⟩)) (hy : a.eval y = tkV t) (hg : TB w g c)
 (h : wpList Tryz.prog ops Q rest (a.put o.dst undef) (w.setRow g (tkC t))) : wpList Tryz.prog ops Q (o :: rest) a w :=
 wpList_store_row hgd 68 x y ho g (tkC t) hx hy 68 c hg (by kernel_rfl) (by rw [hc]; rfl) (by simp [tkC]; exact ⟨rfl, rfl, rfl, rfl, rfl⟩) h
theorem retTk {fn : Func} {p : Tmp} {Q : Ending → World → Prop} {tmps : Array Value} {w : World} {g : Nat} {t : Tk}
 (h : fn.results = #[.cell p 68]) (hp : tmps.getD p undef = .pointer (some ⟨g, 0, none⟩)) (hg : TB w g (tkC t))
 (hQ : Q (.returned (tkV t)) w) : bodyPost Tryz.prog fn Q Exit.ret ⟨tmps, []⟩ w :=
 bodyPost_ret (results_cell_row h tmps w g 68 (tkC t) (0, 0) _ hp hg Tryz.underlying68 rfl (by kernel_rfl)) rfl hQ
theorem chain5 {w w1 w2 : World} {B : Nat} (h : Below B w w1) (hb : Below w1.heap.size w1 w2) (hB : B ≤ w.heap.size := by exact Nat.le_refl _) : Below B w w2 := h.trans (hb.mono (Nat.le_trans hB h.size))
def OutK (w : World) (R : Sc Tk) (e : Ending) (w' : World) : Prop := Below w.heap.size w w' ∧ match R with
 | .ok t _ => e = .returned (tkV t)
 | .bad x p => e = .panicked [{ v := errV x p, recovered := false }]
theorem reportB (x p : Int) (w : World) : Calls Tryz.prog 40 #[.int .i64 x, .int .i64 p] w (fun e w' => e = .panicked [{ v := errV x p, recovered := false }] ∧ w = w') := by
 go_enter Tryz.func40, Tryz.ntmps40
 go_wp2_with fail
 exact ⟨rfl, rfl, rfl⟩
theorem bel_set {w W : World} {g : Nat} (c : Array Value) (hb : Below w.heap.size w W) (hg : w.heap.size ≤ g) : Below w.heap.size w (W.setRow g c) := below_setRow hb hg _
theorem ba_len (b : List UInt8) : ((BA b).size : Int) = (b.length : Int) := by unfold BA ByteArray.size; simp
theorem ba_empty (b : List UInt8) : (BA b).toList.isEmpty = decide (b = []) := by
 have : (BA b).toList = b := by rw [Lib.toList_data]; rfl
 rw [this]
 cases b <;> simp
theorem stringTokenP (p : Int) (b r : List UInt8) (w : World) : Calls Tryz.prog 78 #[.int .i64 p, .string (BA b)] w (OutK w (if 200 < b.length then .bad 2 p else .ok ⟨7, p, [], b, []⟩ r)) := by
 have hsz := ba_len b
 have B0 := Lib.hid (Below.alloc (Below.refl w.heap.size w) (Nat.le_refl _) (.cells #[.int .i64 0, .int .i64 0, .string ⟨#[]⟩, .string ⟨#[]⟩, .string ⟨#[]⟩] 68))
 by_cases h : 200 < b.length
 · rw [if_pos h]
   have h1 : (200 : Int) < (b.length : Int) := by omega
   go_enter Tryz.func78, Tryz.ntmps78
   go_wp2_with fail
   refine (reportB 2 p _).mono ?_
   rintro e w2 ⟨rfl, rfl⟩
   exact ⟨rfl, B0.out, rfl⟩
 · rw [if_neg h]
   have h1 : ¬ (200 : Int) < (b.length : Int) := by omega
   go_enter Tryz.func78, Tryz.ntmps78
   go_wp2
   exact retTk (t := ⟨7, p, [], b, []⟩) rfl rfl (TB.new w _) ⟨Below.alloc (Below.refl _ _) (Nat.le_refl _) _, rfl⟩
theorem symbolTokenP (p : Int) (q b r : List UInt8) (w : World) : Calls Tryz.prog 80 #[.int .i64 p, .string (BA q), .string (BA b)] w (OutK w (symT (fun l => Sy.pkgOk (BA l)) p q b r)) := by
 have hsz := ba_len b
 have T0 := Lib.hid (TB.new w #[.int .i64 0, .int .i64 0, .string ⟨#[]⟩, .string ⟨#[]⟩, .string ⟨#[]⟩])
 have B0 := Lib.hid (Below.alloc (Below.refl w.heap.size w) (Nat.le_refl _) (.cells #[.int .i64 0, .int .i64 0, .string ⟨#[]⟩, .string ⟨#[]⟩, .string ⟨#[]⟩] 68))
 unfold symT
 by_cases h : 40 < b.length
 · rw [if_pos h]
   have h1 : (40 : Int) < (b.length : Int) := by omega
   go_enter Tryz.func80, Tryz.ntmps80
   go_wp2_with fail
   refine (reportB 2 p _).mono ?_
   rintro e w2 ⟨rfl, rfl⟩
   exact ⟨rfl, B0.out, rfl⟩
 · rw [if_neg h]
   have h1 : ¬ (40 : Int) < (b.length : Int) := by omega
   by_cases h2 : b = []
   · rw [if_pos h2]
     have e1 : (BA b).toList.isEmpty = true := by rw [ba_empty]; exact decide_eq_true h2
     clear h2
     go_enter Tryz.func80, Tryz.ntmps80
     go_wp2_with fail
     refine (reportB 3 p _).mono ?_
     rintro e w2 ⟨rfl, rfl⟩
     exact ⟨rfl, B0.out, rfl⟩
   · rw [if_neg h2]
     have e1 : (BA b).toList.isEmpty = false := by rw [ba_empty]; exact decide_eq_false h2
     clear h2
     by_cases h3 : q = []
     · rw [if_neg (fun h => h.1 h3)]
       have e2 : (BA q).toList.isEmpty = true := by rw [ba_empty]; exact decide_eq_true h3
       clear h3
       go_enter Tryz.func80, Tryz.ntmps80
       go_wp2
       exact retTk (t := ⟨6, p, q, b, []⟩) rfl rfl (TB.new w _) ⟨Below.alloc (Below.refl _ _) (Nat.le_refl _) _, rfl⟩
     · have e2 : (BA q).toList.isEmpty = false := by rw [ba_empty]; exact decide_eq_false h3
       cases h4 : Sy.pkgOk (BA q) with
       | false =>
        rw [if_pos ⟨h3, h4⟩]
        have H4 := Lib.hid h4
        clear h3 h4
        go_enter Tryz.func80, Tryz.ntmps80
        go_wp2_with fail
        refine (Sy.validPY (BA q) _).mono ?_
        rintro e w1 ⟨rfl, hb⟩
        rw [H4.out]
        replace B0 := Lib.hid (chain5 B0.out hb)
        clear hb
        go_wp2_with fail
        refine (reportB 3 p _).mono ?_
        rintro e w2 ⟨rfl, rfl⟩
        exact ⟨rfl, B0.out, rfl⟩
       | true =>
        rw [if_neg (fun h => absurd (h4.symm.trans h.2) (by decide))]
        have H4 := Lib.hid h4
        clear h3 h4
        go_enter Tryz.func80, Tryz.ntmps80
        go_wp2_with fail
        refine (Sy.validPY (BA q) _).mono ?_
        rintro e w1 ⟨rfl, hb⟩
        rw [H4.out]
        replace B0 := Lib.hid (chain5 B0.out hb)
        replace T0 := Lib.hid (T0.out.keep hb)
        clear hb
        go_wp2_with (refine TB.store (.tmp 6) (.tmp 28) rfl rfl w.heap.size ⟨6, p, q, b, []⟩ _ rfl rfl rfl T0.out ?_)
        exact retTk rfl rfl (T0.out.set _) ⟨bel_set _ B0.out (Nat.le_refl _), rfl⟩
set_option maxHeartbeats 8000000
set_option maxRecDepth 100000

def negS (b : Bool) (x : List UInt8) : List UInt8 := if b then text (-(val x)) else x
def numQ (b : Bool) (x y : List UInt8) : Rat := quo (negS b x) y
def numP (b : Bool) (x y : List UInt8) : List UInt8 × List UInt8 := (LA (nt (numQ b x y)), LA (dt (numQ b x y)))
def sizP (l : List UInt8) : Nat := (body l).length
def okP (l : List UInt8) : Bool := Sy.pkgOk (BA l)
theorem la_ba (l : List UInt8) : LA (BA l) = l := rfl
theorem ba_toList (l : List UInt8) : (BA l).toList = l := by rw [Lib.toList_data]; rfl
theorem decimalP (l : List UInt8) (w : World) : Calls Tryz.prog 118 #[.string (BA l)] w (fun e w' => e = .returned (.string (BA (decL l))) ∧ w = w') := by
 have HC0 : ∀ w, Calls Tryz.prog 133 #[.string (BA l), .string ⟨#[48]⟩] w fun e w' => e = .returned (.string (BA (l.dropWhile (· == 48)))) ∧ w' = w := fun w => Tryz.strings_TrimLeft_one (BA l) 48 (by decide) w
 unfold decL
 cases ht : l.dropWhile (· == 48) with
 | nil =>
  have e1 : (BA []).toList.isEmpty = true := by rw [ba_empty]; rfl
  rw [ht] at HC0
  have HC := Lib.hid HC0
  clear HC0 ht
  go_enter Tryz.func118, Tryz.ntmps118
  go_wp2_with fail
  refine (HC.out _).mono ?_
  rintro e w1 ⟨rfl, rfl⟩
  go_wp2
  go_ret
  exact ⟨rfl, rfl⟩
 | cons c r =>
  show Calls _ _ _ _ (fun e w' => e = .returned (.string (BA (c :: r))) ∧ w = w')
  have e1 : (BA (c :: r)).toList.isEmpty = false := by rw [ba_empty]; rfl
  rw [ht] at HC0
  obtain ⟨B, hB⟩ : ∃ B, BA (c :: r) = B := ⟨_, rfl⟩
  rw [hB] at HC0 e1 ⊢
  have HC := Lib.hid HC0
  clear HC0 ht hB
  go_enter Tryz.func118, Tryz.ntmps118
  go_wp2_with fail
  refine (HC.out _).mono ?_
  rintro e w1 ⟨rfl, rfl⟩
  go_wp2
  go_ret
  exact ⟨rfl, rfl⟩
def digs10 : List UInt8 := [48, 49, 50, 51, 52, 53, 54, 55, 56, 57]
theorem digU_mem (c : UInt8) : digs10.contains c = digU c := by
 have h : ((List.range 256).all fun n => digs10.contains (UInt8.ofNat n) == digU (UInt8.ofNat n)) = true := by kernel_rfl
 have := List.all_eq_true.1 h c.toNat (List.mem_range.2 c.toNat_lt)
 rw [UInt8.ofNat_toNat] at this
 exact eq_of_beq this
theorem trim_nil (l : List UInt8) : decide (Lib.trimS l digs10 = []) = l.all digU := by
 have hp : (fun c => digs10.contains c) = digU := funext digU_mem
 have k : ∀ m : List UInt8, m.dropWhile digU = [] ↔ m.all digU = true := by
  intro m
  induction m with
  | nil => simp
  | cons c m ih =>
   rw [List.dropWhile_cons, List.all_cons]
   cases digU c <;> simp [ih]
 have h1 : Lib.trimS l digs10 = [] ↔ l.all digU = true := by
  unfold Lib.trimS Lib.trimLeftS Lib.trimRightS
  rw [show (fun x => digs10.contains x) = digU from hp, k, List.all_reverse]
  have h2 := List.takeWhile_append_dropWhile (p := digU) (l := l.reverse)
  constructor
  · intro h
    rw [← List.all_reverse, ← h2, List.all_append, h, Bool.and_true, List.all_takeWhile]
  · intro h
    rw [← List.all_reverse, ← h2, List.all_append, Bool.and_eq_true] at h
    exact h.2
 by_cases h : l.all digU = true
 · rw [h, decide_eq_true (h1.2 h)]
 · rw [decide_eq_false (fun e => h (h1.1 e))]
   simpa using h
theorem isDigitsP (l : List UInt8) (hl : l.length ≤ 6000) (w : World) : Calls Tryz.prog 116 #[.string (BA l)] w (Sy.RetY w (.bool (isDigL l))) := by
 have hsz : (BA l).size ≤ 9223372036854775807 := by have := ba_len l; omega
 obtain ⟨B, hB⟩ : ∃ B, BA (Lib.trimS l digs10) = B := ⟨_, rfl⟩
 have HC : Hid (∀ w, Calls Tryz.prog 131 #[.string (BA l), .string ⟨#[48, 49, 50, 51, 52, 53, 54, 55, 56, 57]⟩] w fun e w' => e = .returned (.string B) ∧ Below w.heap.size w w') := fun w => by
  rw [← hB]
  exact Any.strings_Trim_laid Tryz.lays160 (by kernel_rfl) (BA l) ⟨#[48, 49, 50, 51, 52, 53, 54, 55, 56, 57]⟩ w hsz (by decide) (ascii_of_all (by decide))
 unfold isDigL
 by_cases h : l = []
 · have e1 : (BA l).toList.isEmpty = true := by rw [ba_empty]; exact decide_eq_true h
   rw [h] at e1 ⊢
   go_enter Tryz.func116, Tryz.ntmps116
   go_wp2
   go_ret
   exact ⟨rfl, Below.refl _ _⟩
 · have e1 : (BA l).toList.isEmpty = false := by rw [ba_empty]; exact decide_eq_false h
   have e2 : l.isEmpty = false := by cases l; exact absurd rfl h; rfl
   rw [e2]
   have hd : B.toList.isEmpty = l.all digU := by rw [← hB, ba_empty, trim_nil]
   clear hB e2
   go_enter Tryz.func116, Tryz.ntmps116
   go_wp2_with fail
   refine (HC.out _).mono ?_
   rintro e w1 ⟨rfl, hb⟩
   have HB := Lib.hid hb
   clear hb
   go_wp2
   go_ret
   exact ⟨rfl, HB.out⟩
theorem idxB : ∀ l : List UInt8, Lib.indexByte l 47 = if l.contains 47 then ((l.takeWhile (· != 47)).length : Int) else -1
 | [] => rfl
 | c :: l => by
  have ih := idxB l
  unfold Lib.indexByte
  rw [ih, List.contains_cons, List.takeWhile_cons]
  by_cases hc : c = 47
  · subst hc; rfl
  · have h1 : (c == 47) = false := beq_eq_false_iff_ne.2 hc
    have h2 : ((47 : UInt8) == c) = false := beq_eq_false_iff_ne.2 (fun h => hc h.symm)
    have e1 : (c != 47) = true := by rw [bne_iff_ne]; exact hc
    rw [h1, h2, Bool.false_or, if_pos e1]
    cases l.contains 47
    · rfl
    · simp
theorem take_len (l : List UInt8) : l.take (l.takeWhile (· != 47)).length = l.takeWhile (· != 47) := by
 have h := List.takeWhile_append_dropWhile (p := fun x : UInt8 => x != 47) (l := l)
 calc l.take (l.takeWhile (· != 47)).length = (l.takeWhile (· != 47) ++ l.dropWhile (· != 47)).take (l.takeWhile (· != 47)).length := by rw [h]
  _ = _ := List.take_left
theorem drop_len (l : List UInt8) : l.drop ((l.takeWhile (· != 47)).length + 1) = (l.dropWhile (· != 47)).tail := by
 have h := List.takeWhile_append_dropWhile (p := fun x : UInt8 => x != 47) (l := l)
 have : l.drop (l.takeWhile (· != 47)).length = l.dropWhile (· != 47) := by
  calc l.drop (l.takeWhile (· != 47)).length = (l.takeWhile (· != 47) ++ l.dropWhile (· != 47)).drop (l.takeWhile (· != 47)).length := by rw [h]
   _ = _ := List.drop_left
 rw [← List.drop_drop, this, List.drop_one]
theorem take_lt (l : List UInt8) (h : l.contains 47 = true) : (l.takeWhile (· != 47)).length < l.length := by
 induction l with
 | nil => simp at h
 | cons c l ih =>
  rw [List.takeWhile_cons, List.length_cons]
  by_cases hc : c = 47
  · subst hc; simp
  · rw [if_pos (by rw [bne_iff_ne]; exact hc), List.length_cons]
    have : l.contains 47 = true := by
     rw [List.contains_cons, beq_eq_false_iff_ne.2 (fun h => hc h.symm), Bool.false_or] at h
     exact h
    have := ih this
    omega
theorem ex_left (l : List UInt8) (i : Nat) : (BA l).extract 0 i = BA (l.take i) := by
 unfold BA
 apply ByteArray.ext
 rw [ByteArray.data_extract]
 simp
theorem ex_right (l : List UInt8) (i : Nat) (h : i ≤ l.length) : (BA l).extract i (BA l).size = BA (l.drop i) := by
 have hs : (BA l).size = l.length := by have := ba_len l; omega
 rw [hs]
 unfold BA
 apply ByteArray.ext
 rw [ByteArray.data_extract]
 simp
 exact List.take_of_length_le (by rw [List.length_drop]; exact Nat.le_refl _)
theorem cutP (l : List UInt8) (hl : l.length ≤ 6000) (w : World) : Calls Tryz.prog 130 #[.string (BA l), .string ⟨#[47]⟩] w (Sy.QuietY w (if l.contains 47 then .tuple #[.string (BA (l.takeWhile (· != 47))), .string (BA (l.dropWhile (· != 47)).tail), .bool true] else .tuple #[.string (BA l), .string ⟨#[]⟩, .bool false])) := by
 have hsz := ba_len l
 have HC : Hid (∀ w, Calls Tryz.prog 140 #[.string (BA l), .string ⟨#[47]⟩] w fun e w' => e = .returned (.int .i64 (if l.contains 47 then ((l.takeWhile (· != 47)).length : Int) else -1)) ∧ w' = w) := fun w => by
  rw [← idxB]
  exact Tryz.stringslite_Index_one (BA l) 47 w
 cases h : l.contains 47 with
 | true =>
  rw [h] at HC
  have HL := Lib.hid (ex_left l (l.takeWhile (· != 47)).length)
  have HR := Lib.hid (ex_right l ((l.takeWhile (· != 47)).length + 1) (take_lt l h))
  have htl := take_lt l h
  rw [take_len] at HL
  rw [drop_len] at HR
  rw [if_pos rfl] at HC ⊢
  obtain ⟨k, hk⟩ : ∃ k, (l.takeWhile (· != 47)).length = k := ⟨_, rfl⟩
  rw [hk] at HC HL HR htl
  clear hk h
  have hs1 : (BA l).size = l.length := by omega
  have h1 : (0 : Int) ≤ (k : Int) ∧ (k : Int) ≤ (l.length : Int) := by omega
  have h2 : (0 : Int) ≤ (k : Int) + 1 ∧ (k : Int) + 1 ≤ (l.length : Int) := by omega
  go_enter Tryz.func130, Tryz.ntmps130
  go_wp2_with fail
  refine (HC.out _).mono ?_
  rintro e w1 ⟨rfl, rfl⟩
  go_wp2_with fail
  go_quiet (fail)
  go_wp2
  rw [hs1] at HR
  exact bodyPost_ret (results_tmp3 rfl _ _ _) rfl ⟨by rw [← HL.out, ← HR.out]; rfl, nq, rfl⟩
 | false =>
  rw [h] at HC
  rw [if_neg (by simp)] at HC ⊢
  go_enter Tryz.func130, Tryz.ntmps130
  go_wp2_with fail
  refine (HC.out _).mono ?_
  rintro e w1 ⟨rfl, rfl⟩
  go_wp2
  exact bodyPost_ret (results_tmp3 rfl _ _ _) rfl ⟨rfl, 0, rfl⟩
set_option maxHeartbeats 8000000
set_option maxRecDepth 100000

theorem cutS (x y : ByteArray) (b : Bool) (a c : Value) (w : World) (h : Calls Tryz.prog 130 #[a, c] w (Sy.QuietY w (.tuple #[.string x, .string y, .bool b]))) : Calls Tryz.prog 115 #[a, c] w (Sy.QuietY w (.tuple #[.string x, .string y, .bool b])) := by
 have HH := Lib.hid h
 clear h
 go_enter Tryz.func115, Tryz.ntmps115
 go_wp2_with fail
 refine HH.out.mono ?_
 rintro e w1 ⟨rfl, hq⟩
 have HQ := Lib.hid hq
 clear hq
 go_wp2
 exact bodyPost_ret (results_tmp3 rfl _ _ _) rfl ⟨rfl, HQ.out⟩
theorem afterM_eq (l : List UInt8) : Lib.trimPrefix l [45] = afterM l := by
 cases l with
 | nil => rfl
 | cons c l =>
  by_cases h : c = 45
  · subst h; rfl
  · have e1 : afterM (c :: l) = c :: l := by
     unfold afterM
     split
     · rename_i heq; injection heq with heq _; exact absurd heq h
     · rfl
    rw [e1]
    have e2 : ([45] : List UInt8).isPrefixOf (c :: l) = false := by
     show (((45 : UInt8) == c) && true) = false
     rw [beq_eq_false_iff_ne.2 (fun e => h e.symm)]; rfl
    unfold Lib.trimPrefix
    first | (rw [if_neg (by rw [e2]; simp)]) | (simp [Lib.hasPrefix, e2])
theorem isM_eq (l : List UInt8) : Lib.hasPrefix l [45] = isM l := by
 cases l with
 | nil => rfl
 | cons c l =>
  by_cases h : c = 45
  · subst h; rfl
  · have e1 : isM (c :: l) = false := by
     unfold isM
     split
     · rename_i heq; injection heq with heq _; exact absurd heq h
     · rfl
    rw [e1]
    show (((45 : UInt8) == c) && true) = false
    rw [beq_eq_false_iff_ne.2 (fun e => h e.symm)]; rfl
theorem afterM_len (l : List UInt8) : (afterM l).length ≤ l.length := by
 unfold afterM
 split
 · simp
 · exact Nat.le_refl _
def cutA (l : List UInt8) : List UInt8 × List UInt8 := if l.contains 47 then (l.takeWhile (· != 47), (l.dropWhile (· != 47)).tail) else (l, [])
theorem below_q5 {B : Nat} {w w1 w2 : World} (h : Below B w w1) (hq : ∃ n, w2 = w1.drewN n) : Below B w w2 := by
 obtain ⟨n, rfl⟩ := hq
 exact h.trans ⟨rfl, rfl, rfl, Nat.le_refl _, fun _ _ => rfl⟩
def OutN (w : World) (R : Option (Bool × List UInt8 × List UInt8)) (e : Ending) (w' : World) : Prop := Below w.heap.size w w' ∧ match R with
 | some (b, x, y) => e = .returned (.tuple #[.string (BA (negS b (decL x))), .string (BA (decL y)), .bool true])
 | none => e = .returned (.tuple #[.string ⟨#[]⟩, .string ⟨#[]⟩, .bool false])
theorem decL_len (l : List UInt8) : (decL l).length ≤ max 1 l.length := by
 unfold decL
 split
 · simp; omega
 · have := (List.dropWhile_sublist (fun x : UInt8 => x == 48) (l := l)).length_le
   omega
theorem fractionP (l : List UInt8) (hl : l.length ≤ 6000) (w : World) : Calls Tryz.prog 104 #[.string (BA l)] w (OutN w (numL l)) := by
 have HCP : Hid (∀ w, Calls Tryz.prog 114 #[.string (BA l), .string ⟨#[45]⟩] w fun e w' => e = .returned (.tuple #[.string (BA (afterM l)), .bool (isM l)]) ∧ w' = w) := fun w => by
  rw [← afterM_eq, ← isM_eq]
  exact Tryz.strings_CutPrefix (BA l) ⟨#[45]⟩ w
 have HCU : Hid (∀ w, Calls Tryz.prog 115 #[.string (BA (afterM l)), .string ⟨#[47]⟩] w (Sy.QuietY w (.tuple #[.string (BA (cutA (afterM l)).1), .string (BA (cutA (afterM l)).2), .bool ((afterM l).contains 47)]))) := fun w => by
  refine cutS _ _ _ _ _ w ((cutP (afterM l) (Nat.le_trans (afterM_len l) hl) w).mono fun e w' h => ?_)
  unfold cutA
  cases hc : (afterM l).contains 47 <;> rw [hc] at h <;> exact h
 have hx : (cutL (afterM l)).1.length ≤ 6000 ∧ (cutL (afterM l)).2.length ≤ 6000 := by
  have h1 := afterM_len l
  unfold cutL
  split
  · have h2 := (List.takeWhile_sublist (fun x : UInt8 => x != 47) (l := afterM l)).length_le
    have h3 := (List.dropWhile_sublist (fun x : UInt8 => x != 47) (l := afterM l)).length_le
    simp only [List.length_tail]
    omega
  · simp; omega
 have HDX := Lib.hid (isDigitsP _ hx.1)
 have HDY := Lib.hid (isDigitsP _ hx.2)
 have hcut : cutL (afterM l) = if (afterM l).contains 47 then cutA (afterM l) else ((cutA (afterM l)).1, [49]) := by
  unfold cutL cutA
  cases (afterM l).contains 47 <;> rfl
 have HLX := Lib.hid (Nat.le_trans (decL_len (cutL (afterM l)).1) (show max 1 (cutL (afterM l)).1.length ≤ 6000 by omega))
 unfold numL
 rw [hcut] at HDX HDY HLX ⊢
 generalize afterM l = m at HCP HCU HDX HDY HLX ⊢
 generalize cutA m = xy at HCU HDX HDY HLX ⊢
 obtain ⟨x, y⟩ := xy
 clear hcut hx
 have HB := Lib.hid (Below.refl w.heap.size w)
 cases hc : m.contains 47
 all_goals
  rw [hc] at HDX HDY HLX HCU
  simp only [if_true, if_false, Bool.false_eq_true] at HDX HDY HCU HLX ⊢
 · cases hdx : isDigL x with
   | false =>
    rw [if_neg (by simp)]
    have HX := Lib.hid hdx
    clear hdx hc
    go_enter Tryz.func104, Tryz.ntmps104
    go_wp2_with fail
    refine (HCP.out _).mono ?_
    rintro e w1 ⟨rfl, rfl⟩
    go_wp2_with fail
    refine (HCU.out _).mono ?_
    rintro e w2 ⟨rfl, hq⟩
    replace HB := Lib.hid (below_q5 HB.out hq)
    clear hq
    go_wp2_with fail
    refine (HDX.out _).mono ?_
    rintro e w3 ⟨rfl, hb⟩
    rw [HX.out]
    replace HB := Lib.hid (chain5 HB.out hb)
    clear hb
    go_wp2
    exact bodyPost_ret (results_tmp3 rfl _ _ _) rfl ⟨HB.out, rfl⟩
   | true =>
    have HX := Lib.hid hdx
    cases hdy : isDigL [49] with
    | false =>
     rw [if_neg (by simp)]
     have HY := Lib.hid hdy
     clear hdx hdy hc
     go_enter Tryz.func104, Tryz.ntmps104
     go_wp2_with fail
     refine (HCP.out _).mono ?_
     rintro e w1 ⟨rfl, rfl⟩
     go_wp2_with fail
     refine (HCU.out _).mono ?_
     rintro e w2 ⟨rfl, hq⟩
     replace HB := Lib.hid (below_q5 HB.out hq)
     clear hq
     go_wp2_with fail
     refine (HDX.out _).mono ?_
     rintro e w3 ⟨rfl, hb⟩
     rw [HX.out]
     replace HB := Lib.hid (chain5 HB.out hb)
     clear hb
     go_wp2_with fail
     refine (HDY.out _).mono ?_
     rintro e w4 ⟨rfl, hb⟩
     rw [HY.out]
     replace HB := Lib.hid (chain5 HB.out hb)
     clear hb
     go_wp2
     exact bodyPost_ret (results_tmp3 rfl _ _ _) rfl ⟨HB.out, rfl⟩
    | true =>
     rw [if_pos (by simp)]
     have HY := Lib.hid hdy
     clear hdx hdy hc
     generalize hbm : isM l = bm at HCP ⊢; clear hbm; cases bm with
     | false =>
      go_enter Tryz.func104, Tryz.ntmps104
      go_wp2_with fail
      refine (HCP.out _).mono ?_
      rintro e w1 ⟨rfl, rfl⟩
      go_wp2_with fail
      refine (HCU.out _).mono ?_
      rintro e w2 ⟨rfl, hq⟩
      replace HB := Lib.hid (below_q5 HB.out hq)
      clear hq
      go_wp2_with fail
      refine (HDX.out _).mono ?_
      rintro e w3 ⟨rfl, hb⟩
      rw [HX.out]
      replace HB := Lib.hid (chain5 HB.out hb)
      clear hb
      go_wp2_with fail
      refine (HDY.out _).mono ?_
      rintro e w4 ⟨rfl, hb⟩
      rw [HY.out]
      replace HB := Lib.hid (chain5 HB.out hb)
      clear hb
      go_wp2_with fail
      refine (decimalP x _).mono ?_
      rintro e w5 ⟨rfl, rfl⟩
      go_wp2_with fail
      refine (decimalP [49] _).mono ?_
      rintro e w6 ⟨rfl, rfl⟩
      go_wp2
      exact bodyPost_ret (results_tmp3 rfl _ _ _) rfl ⟨HB.out, rfl⟩
     | true =>
      go_enter Tryz.func104, Tryz.ntmps104
      go_wp2_with fail
      refine (HCP.out _).mono ?_
      rintro e w1 ⟨rfl, rfl⟩
      go_wp2_with fail
      refine (HCU.out _).mono ?_
      rintro e w2 ⟨rfl, hq⟩
      replace HB := Lib.hid (below_q5 HB.out hq)
      clear hq
      go_wp2_with fail
      refine (HDX.out _).mono ?_
      rintro e w3 ⟨rfl, hb⟩
      rw [HX.out]
      replace HB := Lib.hid (chain5 HB.out hb)
      clear hb
      go_wp2_with fail
      refine (HDY.out _).mono ?_
      rintro e w4 ⟨rfl, hb⟩
      rw [HY.out]
      replace HB := Lib.hid (chain5 HB.out hb)
      clear hb
      go_wp2_with fail
      refine (decimalP x _).mono ?_
      rintro e w5 ⟨rfl, rfl⟩
      go_wp2_with fail
      refine (negate_any (BA (decL x)) _ (by have := ba_len (decL x); have := HLX.out; omega)).mono ?_
      rintro e w6 ⟨rfl, hb⟩
      replace HB := Lib.hid (chain5 HB.out hb)
      clear hb
      go_wp2_with fail
      refine (decimalP [49] _).mono ?_
      rintro e w7 ⟨rfl, rfl⟩
      go_wp2
      exact bodyPost_ret (results_tmp3 rfl _ _ _) rfl ⟨HB.out, rfl⟩
 · cases hdx : isDigL x with
   | false =>
    rw [if_neg (by simp)]
    have HX := Lib.hid hdx
    clear hdx hc
    go_enter Tryz.func104, Tryz.ntmps104
    go_wp2_with fail
    refine (HCP.out _).mono ?_
    rintro e w1 ⟨rfl, rfl⟩
    go_wp2_with fail
    refine (HCU.out _).mono ?_
    rintro e w2 ⟨rfl, hq⟩
    replace HB := Lib.hid (below_q5 HB.out hq)
    clear hq
    go_wp2_with fail
    refine (HDX.out _).mono ?_
    rintro e w3 ⟨rfl, hb⟩
    rw [HX.out]
    replace HB := Lib.hid (chain5 HB.out hb)
    clear hb
    go_wp2
    exact bodyPost_ret (results_tmp3 rfl _ _ _) rfl ⟨HB.out, rfl⟩
   | true =>
    have HX := Lib.hid hdx
    cases hdy : isDigL y with
    | false =>
     rw [if_neg (by simp)]
     have HY := Lib.hid hdy
     clear hdx hdy hc
     go_enter Tryz.func104, Tryz.ntmps104
     go_wp2_with fail
     refine (HCP.out _).mono ?_
     rintro e w1 ⟨rfl, rfl⟩
     go_wp2_with fail
     refine (HCU.out _).mono ?_
     rintro e w2 ⟨rfl, hq⟩
     replace HB := Lib.hid (below_q5 HB.out hq)
     clear hq
     go_wp2_with fail
     refine (HDX.out _).mono ?_
     rintro e w3 ⟨rfl, hb⟩
     rw [HX.out]
     replace HB := Lib.hid (chain5 HB.out hb)
     clear hb
     go_wp2_with fail
     refine (HDY.out _).mono ?_
     rintro e w4 ⟨rfl, hb⟩
     rw [HY.out]
     replace HB := Lib.hid (chain5 HB.out hb)
     clear hb
     go_wp2
     exact bodyPost_ret (results_tmp3 rfl _ _ _) rfl ⟨HB.out, rfl⟩
    | true =>
     rw [if_pos (by simp)]
     have HY := Lib.hid hdy
     clear hdx hdy hc
     generalize hbm : isM l = bm at HCP ⊢; clear hbm; cases bm with
     | false =>
      go_enter Tryz.func104, Tryz.ntmps104
      go_wp2_with fail
      refine (HCP.out _).mono ?_
      rintro e w1 ⟨rfl, rfl⟩
      go_wp2_with fail
      refine (HCU.out _).mono ?_
      rintro e w2 ⟨rfl, hq⟩
      replace HB := Lib.hid (below_q5 HB.out hq)
      clear hq
      go_wp2_with fail
      refine (HDX.out _).mono ?_
      rintro e w3 ⟨rfl, hb⟩
      rw [HX.out]
      replace HB := Lib.hid (chain5 HB.out hb)
      clear hb
      go_wp2_with fail
      refine (HDY.out _).mono ?_
      rintro e w4 ⟨rfl, hb⟩
      rw [HY.out]
      replace HB := Lib.hid (chain5 HB.out hb)
      clear hb
      go_wp2_with fail
      refine (decimalP x _).mono ?_
      rintro e w5 ⟨rfl, rfl⟩
      go_wp2_with fail
      refine (decimalP y _).mono ?_
      rintro e w6 ⟨rfl, rfl⟩
      go_wp2
      exact bodyPost_ret (results_tmp3 rfl _ _ _) rfl ⟨HB.out, rfl⟩
     | true =>
      go_enter Tryz.func104, Tryz.ntmps104
      go_wp2_with fail
      refine (HCP.out _).mono ?_
      rintro e w1 ⟨rfl, rfl⟩
      go_wp2_with fail
      refine (HCU.out _).mono ?_
      rintro e w2 ⟨rfl, hq⟩
      replace HB := Lib.hid (below_q5 HB.out hq)
      clear hq
      go_wp2_with fail
      refine (HDX.out _).mono ?_
      rintro e w3 ⟨rfl, hb⟩
      rw [HX.out]
      replace HB := Lib.hid (chain5 HB.out hb)
      clear hb
      go_wp2_with fail
      refine (HDY.out _).mono ?_
      rintro e w4 ⟨rfl, hb⟩
      rw [HY.out]
      replace HB := Lib.hid (chain5 HB.out hb)
      clear hb
      go_wp2_with fail
      refine (decimalP x _).mono ?_
      rintro e w5 ⟨rfl, rfl⟩
      go_wp2_with fail
      refine (negate_any (BA (decL x)) _ (by have := ba_len (decL x); have := HLX.out; omega)).mono ?_
      rintro e w6 ⟨rfl, hb⟩
      replace HB := Lib.hid (chain5 HB.out hb)
      clear hb
      go_wp2_with fail
      refine (decimalP y _).mono ?_
      rintro e w7 ⟨rfl, rfl⟩
      go_wp2
      exact bodyPost_ret (results_tmp3 rfl _ _ _) rfl ⟨HB.out, rfl⟩
def WfT : List Tk → Prop
 | [] => False
 | t :: r => if t.k = 0 then r = [] else WfT r
theorem WfT.ne {l : List Tk} (h : WfT l) : l ≠ [] := by rintro rfl; exact h
theorem WfT.tail {t : Tk} {r : List Tk} (h : WfT (t :: r)) (hk : t.k ≠ 0) : WfT r := by
 unfold WfT at h
 rwa [if_neg hk] at h
theorem WfT.last {t : Tk} {r : List Tk} (h : WfT (t :: r)) (hk : t.k = 0) : r = [] := by
 unfold WfT at h
 rwa [if_pos hk] at h
def accN (l : List Ob) : Nat := (l.map fun o => o.nodes + 1).sum
theorem accN_snoc (l : List Ob) (o : Ob) : accN (l ++ [o]) = accN l + (o.nodes + 1) := by unfold accN; simp
theorem consL_nodes : ∀ (l : List Ob) (o : Ob), (consL l o).nodes = accN l + o.nodes
 | [], o => by show o.nodes = 0 + o.nodes; omega
 | a :: l, o => by
  have := consL_nodes l o
  show 1 + a.nodes + (consL l o).nodes = _
  rw [this]
  have h : accN (a :: l) = (a.nodes + 1) + accN l := by unfold accN; simp
  rw [h]
  omega
section
variable (sym : Tk → (List UInt8 × List UInt8) × Int) (num : Tk → Rat)
def PrOk (n : Nat) (ts : List Tk) : Pr → Prop
 | .ok o r => WfT r ∧ r.length < ts.length ∧ o.nodes + n + 4 * r.length ≤ 4 * ts.length
 | _ => True
theorem par_ok : ∀ (f : Nat), (∀ (d : Int) (ts : List Tk), WfT ts → PrOk 1 ts (parF sym num f d ts)) ∧
 (∀ (d : Int) (acc : List Ob) (ts : List Tk), WfT ts → ∀ o r, lisF sym num f d acc ts = .ok o r → WfT r ∧ r.length < ts.length ∧ o.nodes + 4 * r.length + 3 ≤ accN acc + 4 * ts.length)
 | 0 => ⟨fun d ts h => by unfold parF; trivial, fun d acc ts h o r e => by unfold lisF at e; cases e⟩
 | f + 1 => by
  obtain ⟨ih1, ih2⟩ := par_ok f
  constructor
  · intro d ts h
    cases ts with
    | nil => exact absurd rfl h.ne
    | cons t ts =>
     rw [parF]
     by_cases k0 : t.k = 0
     · rw [if_pos k0]; trivial
     rw [if_neg k0]
     have hw := h.tail k0
     by_cases k5 : t.k = 5
     · rw [if_pos k5]
       exact ⟨hw, by simp, by simp only [Ob.nodes, List.length_cons]; omega⟩
     rw [if_neg k5]
     by_cases k6 : t.k = 6
     · rw [if_pos k6]
       split
       · exact ⟨hw, by simp, by simp only [Ob.nodes, List.length_cons]; omega⟩
       · trivial
     rw [if_neg k6]
     by_cases k7 : t.k = 7
     · rw [if_pos k7]
       exact ⟨hw, by simp, by simp only [Ob.nodes, List.length_cons]; omega⟩
     rw [if_neg k7]
     by_cases k2 : t.k = 2 ∨ t.k = 3
     · rw [if_pos k2]; trivial
     rw [if_neg k2]
     by_cases hd : 200 < d
     · rw [if_pos hd]; trivial
     rw [if_neg hd]
     by_cases k4 : t.k = 4
     · rw [if_pos k4]
       have := ih1 (d + 1) ts hw
       cases hp : parF sym num f (d + 1) ts with
       | ok o r =>
        rw [hp] at this
        obtain ⟨a, b, c⟩ := this
        refine ⟨a, by simp only [List.length_cons]; omega, ?_⟩
        show (1 + quoteO.nodes + (1 + o.nodes + Ob.nil.nodes)) + 1 + 4 * r.length ≤ _
        simp only [quoteO, Ob.nil, Ob.nodes, List.length_cons]
        omega
       | bad e p => trivial
       | out => trivial
     rw [if_neg k4]
     cases hp : lisF sym num f (d + 1) [] ts with
     | ok o r =>
      obtain ⟨a, b, c⟩ := ih2 _ _ _ hw _ _ hp
      refine ⟨a, by simp only [List.length_cons]; omega, ?_⟩
      simp only [accN, List.map_nil, List.sum_nil, List.length_cons] at c ⊢
      omega
     | bad e p => trivial
     | out => trivial
  · intro d acc ts h o r e
    cases ts with
    | nil => exact absurd rfl h.ne
    | cons t ts =>
     rw [lisF] at e
     by_cases k2 : t.k = 2
     · rw [if_pos k2] at e
       injection e with e1 e2
       subst e1 e2
       refine ⟨h.tail (by omega), by simp, ?_⟩
       rw [consL_nodes]
       simp only [Ob.nil, Ob.nodes, List.length_cons]
       omega
     rw [if_neg k2] at e
     by_cases k3 : t.k = 3 ∧ acc ≠ []
     · rw [if_pos k3] at e
       have hw := h.tail (by omega)
       have := ih1 d ts hw
       cases hp : parF sym num f d ts with
       | ok x s =>
        rw [hp] at this e
        obtain ⟨a, b, c⟩ := this
        cases s with
        | nil => exact absurd rfl a.ne
        | cons u s =>
         by_cases u2 : u.k = 2
         · simp only [if_pos u2] at e
           injection e with e1 e2
           subst e1 e2
           refine ⟨a.tail (by omega), by simp only [List.length_cons] at b ⊢; omega, ?_⟩
           rw [consL_nodes]
           simp only [List.length_cons] at c ⊢
           omega
         · simp only [if_neg u2] at e
           split at e <;> cases e
       | bad e' p => rw [hp] at e; cases e
       | out => rw [hp] at e; cases e
     rw [if_neg k3] at e
     have := ih1 d (t :: ts) h
     cases hp : parF sym num f d (t :: ts) with
     | ok x s =>
      rw [hp] at this e
      obtain ⟨a, b, c⟩ := this
      obtain ⟨a', b', c'⟩ := ih2 _ _ _ a _ _ e
      refine ⟨a', by omega, ?_⟩
      rw [accN_snoc] at c'
      omega
     | bad e' p => rw [hp] at e; cases e
     | out => rw [hp] at e; cases e
theorem par_in : ∀ (f : Nat), (∀ (d : Int) (ts : List Tk), WfT ts → 2 * ts.length + 1 ≤ f → parF sym num f d ts ≠ .out) ∧
 (∀ (d : Int) (acc : List Ob) (ts : List Tk), WfT ts → 2 * ts.length + 2 ≤ f → lisF sym num f d acc ts ≠ .out)
 | 0 => ⟨fun d ts h hf => by omega, fun d acc ts h hf => by omega⟩
 | f + 1 => by
  obtain ⟨ih1, ih2⟩ := par_in f
  constructor
  · intro d ts h hf
    cases ts with
    | nil => exact absurd rfl h.ne
    | cons t ts =>
     simp only [List.length_cons] at hf
     rw [parF]
     by_cases k0 : t.k = 0
     · rw [if_pos k0]; intro e; cases e
     rw [if_neg k0]
     have hw := h.tail k0
     have q1 := ih1 (d + 1) ts hw (by omega)
     have q2 := ih2 (d + 1) [] ts hw (by omega)
     repeat' split
     all_goals first | (intro e; cases e; done) | assumption | skip
     all_goals (intro e; rename_i hx _; first | exact hx _ _ e | skip)
     all_goals first | (exact q1 (by assumption)) | (exact q1 (e ▸ by assumption)) | simp_all
  · intro d acc ts h hf
    cases ts with
    | nil => exact absurd rfl h.ne
    | cons t ts =>
     simp only [List.length_cons] at hf
     rw [lisF]
     by_cases k2 : t.k = 2
     · rw [if_pos k2]; intro e; cases e
     rw [if_neg k2]
     by_cases k3 : t.k = 3 ∧ acc ≠ []
     · rw [if_pos k3]
       have hw := h.tail (by omega)
       have := (par_ok sym num f).1 d ts hw
       have q := ih1 d ts hw (by omega)
       cases hp : parF sym num f d ts with
       | ok x s =>
        rw [hp] at this
        cases s with
        | nil => exact absurd rfl this.1.ne
        | cons u s =>
         show (if u.k = 2 then Pr.ok (consL acc x) s else if u.k = 0 then .bad 11 u.p else .bad 12 u.p) ≠ .out
         split
         · intro e; cases e
         · split <;> (intro e; cases e)
       | bad e' p => intro e; cases e
       | out => exact absurd hp q
     rw [if_neg k3]
     have := (par_ok sym num f).1 d (t :: ts) h
     have q := ih1 d (t :: ts) h (by simp only [List.length_cons]; omega)
     cases hp : parF sym num f d (t :: ts) with
     | ok x s =>
      rw [hp] at this
      simp only [PrOk, List.length_cons] at this
      exact ih2 _ _ _ this.1 (by omega)
     | bad e' p => intro e; cases e
     | out => exact absurd hp q
end
def numRL (w : List UInt8) : Option (List UInt8 × List UInt8) :=
 if (afterM w).takeWhile digU = [] then none else
 match (afterM w).dropWhile digU with
 | [] => some (w, [49])
 | c :: y => if c = 47 ∧ isDigL y = true then some ((if isM w then [45] else []) ++ (afterM w).takeWhile digU, y) else none
theorem w_parts (w : List UInt8) : w = (if isM w then [45] else []) ++ afterM w := by
 unfold isM afterM
 split <;> rfl
theorem all_tw (l : List UInt8) : (l.takeWhile digU).all digU = true := List.all_takeWhile
theorem dw_head {l : List UInt8} {c : UInt8} {y : List UInt8} (h : l.dropWhile digU = c :: y) : digU c = false := by
 have := List.head?_dropWhile_not digU l
 rw [h] at this
 simpa using this
theorem isDigL_bad {l : List UInt8} {c : UInt8} (hc : c ∈ l) (h : digU c = false) : isDigL l = false := by
 unfold isDigL
 rw [Bool.and_eq_false_iff]
 right
 rw [Bool.eq_false_iff]
 intro e
 rw [List.all_eq_true] at e
 rw [e c hc] at h
 cases h
theorem tw47 (x y : List UInt8) (hx : x.all digU = true) : (x ++ 47 :: y).takeWhile (· != 47) = x ∧ (x ++ 47 :: y).dropWhile (· != 47) = 47 :: y := by
 induction x with
 | nil => exact ⟨rfl, rfl⟩
 | cons c x ih =>
  rw [List.all_cons, Bool.and_eq_true] at hx
  have h := ih hx.2
  have e : (c != 47) = true := by
   rw [bne_iff_ne]
   rintro rfl
   have := hx.1
   simp [digU] at this
  constructor
  · rw [List.cons_append, List.takeWhile_cons, if_pos e, h.1]
  · rw [List.cons_append, List.dropWhile_cons, if_pos e, h.2]
theorem no47 {x : List UInt8} (hx : x.all digU = true) : x.contains 47 = false := by
 rw [Bool.eq_false_iff]
 intro h
 rw [List.contains_iff_mem] at h
 have := List.all_eq_true.1 hx _ h
 simp [digU] at this
theorem numR_eq (w : List UInt8) : numRL w = (numL w).map fun q => ((if q.1 then [45] else []) ++ q.2.1, q.2.2) := by
 unfold numRL numL
 have hp := w_parts w
 generalize hb : (if isM w then [45] else [] : List UInt8) = pre at hp ⊢
 generalize ha : afterM w = a at hp ⊢
 have hs := List.takeWhile_append_dropWhile (p := digU) (l := a)
 generalize hx : a.takeWhile digU = x at hs ⊢
 have hax : x.all digU = true := by rw [← hx]; exact all_tw a
 cases hr : a.dropWhile digU with
 | nil =>
  rw [hr, List.append_nil] at hs
  have hc : cutL a = (a, [49]) := by unfold cutL; rw [← hs, no47 hax]; rfl
  rw [hc]
  subst hs
  by_cases h0 : x = []
  · rw [if_pos h0, h0]; rfl
  · rw [if_neg h0]
    have : isDigL x = true := by unfold isDigL; rw [hax, Bool.and_true]; cases x; exact absurd rfl h0; rfl
    rw [this, show isDigL [49] = true from rfl]
    show some (w, [49]) = some (_ ++ x, [49])
    rw [hb, ← hp]
 | cons c y =>
  rw [hr] at hs
  have hd := dw_head hr
  by_cases h47 : c = 47
  · subst h47
    have hc : cutL a = (x, y) := by
     unfold cutL
     have h2 := tw47 x y hax
     rw [hs] at h2
     rw [if_pos (by rw [List.contains_iff_mem, ← hs]; simp), h2.1, h2.2]
     rfl
    rw [hc]
    by_cases h0 : x = []
    · rw [if_pos h0, h0]; rfl
    · rw [if_neg h0]
      have : isDigL x = true := by unfold isDigL; rw [hax, Bool.and_true]; cases x; exact absurd rfl h0; rfl
      rw [this]
      show (if (47 : UInt8) = 47 ∧ isDigL y = true then _ else _) = _
      cases hy : isDigL y with
      | false => rw [if_neg (by simp)]; rfl
      | true => rw [if_pos ⟨rfl, rfl⟩]; show some (pre ++ x, y) = some (_ ++ x, y); rw [hb]
  · have hm : c ∈ a := by rw [← hs]; simp
    have hc : isDigL (cutL a).1 = false := by
     unfold cutL
     split
     · refine isDigL_bad (c := c) ?_ hd
       rw [← hs, List.takeWhile_append]
       have : (x.takeWhile (fun c => c != 47)) = x := by
        have h3 := (tw47 x [] hax).1
        rw [List.takeWhile_append] at h3
        split at h3
        · rename_i h4
          exact List.IsPrefix.eq_of_length (List.takeWhile_prefix _) h4
        · exact h3
       rw [this, if_pos rfl, List.takeWhile_cons, if_pos (show (c != 47) = true by rw [bne_iff_ne]; exact h47)]
       exact List.mem_append_right _ (List.mem_cons_self)
     · exact isDigL_bad hm hd
    rw [hc, Bool.false_and]
    show _ = (none : Option (List UInt8 × List UInt8))
    by_cases h0 : x = []
    · rw [if_pos h0]
    · rw [if_neg h0]
      show (if c = 47 ∧ isDigL y = true then _ else none) = none
      rw [if_neg (fun h => h47 h.1)]
section
variable (ok : List UInt8 → Bool) (num : Bool → List UInt8 → List UInt8 → List UInt8 × List UInt8) (size : List UInt8 → Nat)
theorem symT_k {p : Int} {pkg name r : List UInt8} {t : Tk} {r' : List UInt8} (h : symT ok p pkg name r = .ok t r') : t = ⟨6, p, pkg, name, []⟩ := by
 unfold symT at h
 repeat' split at h
 all_goals simp at h
 exact h.1.symm
theorem numT_k {p : Int} {b : Bool} {x y r : List UInt8} {t : Tk} {r' : List UInt8} (h : numT num size p b x y r = .ok t r') :
 t = ⟨5, p, [], (num b (decL x) (decL y)).1, (num b (decL x) (decL y)).2⟩ ∧ size t.txt ≤ 100 ∧ size t.den ≤ 100 := by
 unfold numT at h
 repeat' split at h
 all_goals simp at h
 rename_i h1 h2
 rw [← h.1]
 exact ⟨rfl, by show size (num b (decL x) (decL y)).1 ≤ 100; omega, by show size (num b (decL x) (decL y)).2 ≤ 100; omega⟩
def TkOk (P : List UInt8 → List UInt8 → Prop) (t : Tk) : Prop := t.k ≠ 0 ∧ t.k ≤ 7 ∧ (t.k = 5 → P t.txt t.den) ∧ (t.k ≤ 7)
theorem one_ok {P : List UInt8 → List UInt8 → Prop} (hP : ∀ b x y, size (num b x y).1 ≤ 100 → size (num b x y).2 ≤ 100 → P (num b x y).1 (num b x y).2) {n : Nat} {c : UInt8} {l : List UInt8} {t : Tk} {r : List UInt8} (h : oneL ok num size n c l = .ok t r) : TkOk P t := by
 unfold oneL at h
 split at h
 · simp at h; rw [← h.1]; exact ⟨by simp, by simp, by simp, by simp⟩
 split at h
 · simp at h; rw [← h.1]; exact ⟨by simp, by simp, by simp, by simp⟩
 split at h
 · simp at h; rw [← h.1]; exact ⟨by simp, by simp, by simp, by simp⟩
 split at h
 · split at h
   · simp at h
   · split at h
     · simp at h
     · simp at h; rw [← h.1]; exact ⟨by simp, by simp, by simp, by simp⟩
 split at h
 · split at h
   · simp at h
   · rw [symT_k ok h]; exact ⟨by simp, by simp, by simp, by simp⟩
 split at h
 · unfold wordT at h
   split at h
   · split at h
     · simp at h
     · rw [symT_k ok h]; exact ⟨by simp, by simp, by simp, by simp⟩
   · split at h
     · simp at h; rw [← h.1]; exact ⟨by simp, by simp, by simp, by simp⟩
     · split at h
       · obtain ⟨h1, h2, h3⟩ := numT_k num size h
         rw [h1] at h2 h3 ⊢
         exact ⟨by simp, by simp, fun _ => hP _ _ _ h2 h3, by simp⟩
       · rw [symT_k ok h]; exact ⟨by simp, by simp, by simp, by simp⟩
 · simp at h
theorem toks_wf {P : List UInt8 → List UInt8 → Prop} (hP : ∀ b x y, size (num b x y).1 ≤ 100 → size (num b x y).2 ≤ 100 → P (num b x y).1 (num b x y).2) (n : Nat) :
 ∀ (f : Nat) (l : List UInt8) (ts : List Tk), toksF ok num size n f l = .ok ts → WfT ts ∧ ts.length ≤ l.length + 1 ∧ (∀ t ∈ ts, t.k ≤ 7 ∧ (t.k = 5 → P t.txt t.den))
 | 0, l, ts, h => by simp [toksF] at h
 | f + 1, l, ts, h => by
  rw [toksF] at h
  split at h
  · simp at h
  · simp at h; subst h; exact ⟨by simp [WfT], by simp, by simp⟩
  · rename_i c l' hs
    have h1 := skipL_le hs
    simp only [List.length_cons] at h1
    split at h
    · simp at h
    · rename_i t r ho
      have h2 := oneL_le _ _ _ ho
      have h3 := one_ok ok num size hP ho
      split at h
      · rename_i ts' ht
        simp at h
        subst h
        obtain ⟨a, b, d⟩ := toks_wf hP n f r ts' ht
        refine ⟨?_, by simp only [List.length_cons]; omega, ?_⟩
        · unfold WfT; rw [if_neg h3.1]; exact a
        · intro u hu
          rcases List.mem_cons.1 hu with rfl | hu
          · exact ⟨h3.2.1, h3.2.2.1⟩
          · exact d u hu
      · simp at h
end
section
variable (sym : Tk → (List UInt8 × List UInt8) × Int) (num : Tk → Rat)
theorem allF_cons (f : Nat) (acc : List (Ob × Int)) (t : Tk) (ts : List Tk) : allF sym num (f + 1) acc (t :: ts) =
 if t.k = 0 then (.ok acc, true) else
 if acc.length = 100 ∧ t.k ≠ 2 ∧ t.k ≠ 3 then (.error (2, t.p), true) else
 match parF sym num (2 * (ts.length + 1) + 2) 0 (t :: ts) with
 | .out => (.error (0, 0), false)
 | .bad e p => (.error (e, p), true)
 | .ok o r => if 3000 < o.nodes then (.error (2, t.p), true) else allF sym num f (acc ++ [(o, t.p)]) r := rfl
theorem all_true : ∀ (f : Nat) (acc : List (Ob × Int)) (ts : List Tk), WfT ts → ts.length ≤ f → (allF sym num f acc ts).2 = true
 | 0, acc, ts, h, hf => by
  cases ts with
  | nil => exact absurd rfl h.ne
  | cons t ts => simp at hf
 | f + 1, acc, ts, h, hf => by
  cases ts with
  | nil => exact absurd rfl h.ne
  | cons t ts =>
   rw [allF_cons]
   split
   · rfl
   split
   · rfl
   have h1 := (par_ok sym num (2 * (ts.length + 1) + 2)).1 0 _ h
   have h2 := (par_in sym num (2 * (ts.length + 1) + 2)).1 0 _ h (by simp only [List.length_cons]; omega)
   cases hp : parF sym num (2 * (ts.length + 1) + 2) 0 (t :: ts) with
   | ok o r =>
    rw [hp] at h1
    obtain ⟨a, b, c⟩ := h1
    show (if 3000 < o.nodes then (Except.error (2, t.p), true) else allF sym num f (acc ++ [(o, t.p)]) r).2 = true
    split
    · rfl
    · exact all_true f _ r a (by simp only [List.length_cons] at b hf; omega)
   | bad e p => rfl
   | out => exact absurd hp h2
def readL (ts : List Tk) : Except (Int × Int) (List (Ob × Int)) := (allF sym num ts.length [] ts).1
theorem readL_eq (ts : List Tk) (h : WfT ts) : allF sym num ts.length [] ts = (readL sym num ts, true) := by
 have := all_true sym num ts.length [] ts h (Nat.le_refl _)
 unfold readL
 rw [← this]
theorem allF_app : ∀ (f : Nat) (acc l : List (Ob × Int)) (ts : List Tk), allF sym num f acc ts = (.ok l, true) → ∃ l', l = acc ++ l'
 | 0, acc, l, ts, h => by simp [allF] at h
 | f + 1, acc, l, [], h => by simp [allF] at h
 | f + 1, acc, l, t :: ts, h => by
  rw [allF_cons] at h
  split at h
  · simp at h; exact ⟨[], by simp [h]⟩
  split at h
  · simp at h
  split at h
  · simp at h
  · simp at h
  · split at h
    · simp at h
    · obtain ⟨l', hl⟩ := allF_app f _ l _ h
      exact ⟨_, by rw [hl, List.append_assoc]⟩
theorem second {ts : List Tk} {x y : Ob × Int} {l : List (Ob × Int)} (hw : WfT ts) (h : readL sym num ts = .ok (x :: y :: l)) :
 ∃ (t u : Tk) (ts' r : List Tk), ts = t :: ts' ∧ t.k ≠ 0 ∧ parF sym num (2 * ts.length + 2) 0 ts = .ok x.1 (u :: r) ∧ u.p = y.2 := by
 have h0 := readL_eq sym num ts hw
 rw [h] at h0
 clear h
 cases ts with
 | nil => exact absurd rfl hw.ne
 | cons t ts =>
  simp only [List.length_cons] at h0
  rw [allF_cons] at h0
  split at h0
  · simp at h0
  split at h0
  · simp at h0
  split at h0
  · simp at h0
  · simp at h0
  · rename_i k0 _ _ o r hp
    split at h0
    · simp at h0
    · have h1 := (par_ok sym num (2 * (ts.length + 1) + 2)).1 0 _ hw
      rw [hp] at h1
      obtain ⟨l', hl⟩ := allF_app _ _ _ _ _ _ h0
      simp at hl
      obtain ⟨rfl, rfl⟩ := hl
      cases r with
      | nil => exact absurd rfl h1.1.ne
      | cons u r =>
       refine ⟨t, u, ts, r, rfl, k0, hp, ?_⟩
       cases hn : ts.length with
       | zero => rw [hn] at h0; simp [allF] at h0
       | succ m =>
        rw [hn, allF_cons] at h0
        split at h0
        · simp at h0
        split at h0
        · simp at h0
        split at h0
        · simp at h0
        · simp at h0
        · split at h0
          · simp at h0
          · obtain ⟨l2, hl2⟩ := allF_app _ _ _ _ _ _ h0
            simp at hl2
            rw [hl2.1]
theorem objs_small {ts : List Tk} (hw : WfT ts) (hl : ts.length ≤ 700) (d : Int) {o : Ob} {r : List Tk} {f : Nat} (h : parF sym num f d ts = .ok o r) : o.nodes ≤ 2800 := by
 have h1 := (par_ok sym num f).1 d _ hw
 rw [h] at h1
 have := h1.2.2
 omega
end
def Bd (k : Nat) (q : Rat) : Prop := q.num.natAbs < 10 ^ k ∧ q.den < 10 ^ k
theorem bd_nt {k : Nat} {q : Rat} (h : Bd k q) : (nt q).size ≤ k + 2 := by unfold nt; rw [BA_size]; exact text_length h.1
theorem bd_dt {k : Nat} {q : Rat} (h : Bd k q) : (dt q).size ≤ k + 2 := by unfold dt; rw [BA_size]; exact text_length h.2
theorem pow_le {j k : Nat} (h : j ≤ k) : 10 ^ j ≤ 10 ^ k := Nat.pow_le_pow_right (by omega) h
theorem Bd.more {j k : Nat} {q : Rat} (h : Bd j q) (hk : j ≤ k) : Bd k q := ⟨Nat.lt_of_lt_of_le h.1 (pow_le hk), Nat.lt_of_lt_of_le h.2 (pow_le hk)⟩
theorem bd_divInt {k : Nat} {n d : Int} (hn : n.natAbs < 10 ^ k) (hd : d.natAbs < 10 ^ k) (hk : 0 < k) : Bd k (Rat.divInt n d) := by
 by_cases h0 : d = 0
 · subst h0
   rw [Rat.divInt_zero]
   exact ⟨Nat.pow_pos (by omega), Nat.lt_of_lt_of_le (show 1 < 10 ^ 1 by decide) (pow_le hk)⟩
 · constructor
   · rw [Rat.num_divInt]
     refine Nat.lt_of_le_of_lt (Int.natAbs_ediv_le_natAbs _ _) ?_
     rw [Int.natAbs_mul, Int.natAbs_sign_of_ne_zero h0, Nat.one_mul]
     exact hn
   · rw [Rat.den_divInt, if_neg h0]
     exact Nat.lt_of_le_of_lt (Nat.div_le_self _ _) hd
theorem bd_quo {k : Nat} {l m : List UInt8} (hl : l.length ≤ k) (hm : m.length ≤ k) (hk : 0 < k) : Bd k (quo l m) := by
 unfold quo
 refine bd_divInt ?_ ?_ hk
 · rw [val_natAbs]; exact Nat.lt_of_lt_of_le (mag_lt l) (pow_le (by omega))
 · rw [val_natAbs]; exact Nat.lt_of_lt_of_le (mag_lt m) (pow_le (by omega))
def Ob.bd (k : Nat) : Ob → Prop
 | .num q => Bd k q
 | .str s => s.length ≤ 200
 | .sym p n => SyOk p n
 | .cons a d => a.bd k ∧ d.bd k
def Ob.isCons : Ob → Bool
 | .cons _ _ => true
 | _ => false
end Go.Proofs.YtflnffgohbbhiaaGreatDoor
