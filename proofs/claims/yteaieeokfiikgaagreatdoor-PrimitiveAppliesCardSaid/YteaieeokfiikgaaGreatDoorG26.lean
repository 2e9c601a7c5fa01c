import Derived.Test.YteaieeokfiikgaaGreatDoorAl
import Derived.Test.YteaieeokfiikgaaGreatDoorG25
import Derived.Test.YteaieeokfiikgaaGreatDoorG11
import Derived.Test.YteaieeokfiikgaaGreatDoorG13
namespace Go.Proofs.YteaieeokfiikgaaGreatDoor
open Go Go.RowKit
set_option linter.unusedVariables false
def rwA : Array Value := #[.string ⟨#[105, 102]⟩, .int .i64 3, .string ⟨#[101, 113, 117, 97, 108]⟩, .int .i64 2, .string ⟨#[99, 111, 110, 115]⟩, .int .i64 2, .string ⟨#[99, 97, 114]⟩, .int .i64 1, .string ⟨#[99, 100, 114]⟩, .int .i64 1, .string ⟨#[99, 111, 110, 115, 112]⟩, .int .i64 1, .string ⟨#[115, 121, 109, 98, 111, 108, 112]⟩, .int .i64 1, .string ⟨#[115, 116, 114, 105, 110, 103, 112]⟩, .int .i64 1, .string ⟨#[114, 97, 116, 105, 111, 110, 97, 108, 112]⟩, .int .i64 1, .string ⟨#[105, 110, 116, 101, 103, 101, 114, 112]⟩, .int .i64 1, .string ⟨#[98, 105, 110, 97, 114, 121, 45, 43]⟩, .int .i64 2, .string ⟨#[98, 105, 110, 97, 114, 121, 45, 42]⟩, .int .i64 2, .string ⟨#[117, 110, 97, 114, 121, 45, 45]⟩, .int .i64 1, .string ⟨#[117, 110, 97, 114, 121, 45, 47]⟩, .int .i64 1, .string ⟨#[60]⟩, .int .i64 2, .string ⟨#[110, 117, 109, 101, 114, 97, 116, 111, 114]⟩, .int .i64 1, .string ⟨#[100, 101, 110, 111, 109, 105, 110, 97, 116, 111, 114]⟩, .int .i64 1, .string ⟨#[102, 108, 111, 111, 114]⟩, .int .i64 1, .string ⟨#[115, 121, 109, 98, 111, 108, 45, 110, 97, 109, 101]⟩, .int .i64 1, .string ⟨#[115, 121, 109, 98, 111, 108, 45, 112, 97, 99, 107, 97, 103, 101, 45, 110, 97, 109, 101]⟩, .int .i64 1, .string ⟨#[105, 110, 116, 101, 114, 110]⟩, .int .i64 2, .string ⟨#[115, 116, 114, 105, 110, 103, 45, 97, 112, 112, 101, 110, 100]⟩, .int .i64 2, .string ⟨#[115, 116, 114, 105, 110, 103, 45, 108, 101, 110, 103, 116, 104]⟩, .int .i64 1, .string ⟨#[115, 116, 114, 105, 110, 103, 45, 98, 121, 116, 101]⟩, .int .i64 2, .string ⟨#[98, 121, 116, 101, 45, 115, 116, 114, 105, 110, 103]⟩, .int .i64 1]
theorem rwA_row : ∀ (i : Nat), i < 25 → rwA[i * 2]? = some (.string (nmS i)) ∧ rwA[i * 2 + 1]? = some (.int .i64 (arI i))
 | 0, _ => ⟨rfl, rfl⟩
 | 1, _ => ⟨rfl, rfl⟩
 | 2, _ => ⟨rfl, rfl⟩
 | 3, _ => ⟨rfl, rfl⟩
 | 4, _ => ⟨rfl, rfl⟩
 | 5, _ => ⟨rfl, rfl⟩
 | 6, _ => ⟨rfl, rfl⟩
 | 7, _ => ⟨rfl, rfl⟩
 | 8, _ => ⟨rfl, rfl⟩
 | 9, _ => ⟨rfl, rfl⟩
 | 10, _ => ⟨rfl, rfl⟩
 | 11, _ => ⟨rfl, rfl⟩
 | 12, _ => ⟨rfl, rfl⟩
 | 13, _ => ⟨rfl, rfl⟩
 | 14, _ => ⟨rfl, rfl⟩
 | 15, _ => ⟨rfl, rfl⟩
 | 16, _ => ⟨rfl, rfl⟩
 | 17, _ => ⟨rfl, rfl⟩
 | 18, _ => ⟨rfl, rfl⟩
 | 19, _ => ⟨rfl, rfl⟩
 | 20, _ => ⟨rfl, rfl⟩
 | 21, _ => ⟨rfl, rfl⟩
 | 22, _ => ⟨rfl, rfl⟩
 | 23, _ => ⟨rfl, rfl⟩
 | 24, _ => ⟨rfl, rfl⟩
 | k + 25, h => absurd h (by omega)
def Rw7 (w : World) (g : Nat) : Prop := w.heap[g]? = some (.cells rwA 75 (0, 0))
theorem Rw7.keep {w w' : World} {g : Nat} (h : Rw7 w g) (hb : Below w.heap.size w w') : Rw7 w' g := (hb.block g (by
 rcases Nat.lt_or_ge g w.heap.size with hlt | hge
 · exact hlt
 · unfold Rw7 at h; rw [Array.getElem?_eq_none hge] at h; cases h)).trans h
theorem Rw7.c {w : World} {g i : Nat} (h : Rw7 w g) (hi : i < 25) : w.cell? ⟨g, 0 + i * 2, none⟩ = some (.string (nmS i)) ∧ w.cell? ⟨g, 0 + i * 2 + 1, none⟩ = some (.int .i64 (arI i)) := by
 obtain ⟨h1, h2⟩ := rwA_row i hi
 rw [cell_of_row _ _ _ _ _ _ h, cell_of_row _ _ _ _ _ _ h, Nat.zero_add]
 exact ⟨h1, h2⟩
set_option maxHeartbeats 4000000 in
set_option maxRecDepth 100000 in
theorem rowsR (w : World) : Calls Tryz.prog 43 #[] w fun e w' => ∃ g, e = .returned (.slice (some ⟨g, 0, none⟩) 25 25) ∧ Rw7 w' g ∧ w.heap.size ≤ g ∧ Below w.heap.size w w' := by
 have hbuild : ∀ W : World, (Instr.buildSlice 72 25 #[(0, .agg #[.string ⟨#[105, 102]⟩, .int .i64 3]), (1, .agg #[.string ⟨#[101, 113, 117, 97, 108]⟩, .int .i64 2]), (2, .agg #[.string ⟨#[99, 111, 110, 115]⟩, .int .i64 2]), (3, .agg #[.string ⟨#[99, 97, 114]⟩, .int .i64 1]), (4, .agg #[.string ⟨#[99, 100, 114]⟩, .int .i64 1]), (5, .agg #[.string ⟨#[99, 111, 110, 115, 112]⟩, .int .i64 1]), (6, .agg #[.string ⟨#[115, 121, 109, 98, 111, 108, 112]⟩, .int .i64 1]), (7, .agg #[.string ⟨#[115, 116, 114, 105, 110, 103, 112]⟩, .int .i64 1]), (8, .agg #[.string ⟨#[114, 97, 116, 105, 111, 110, 97, 108, 112]⟩, .int .i64 1]), (9, .agg #[.string ⟨#[105, 110, 116, 101, 103, 101, 114, 112]⟩, .int .i64 1]), (10, .agg #[.string ⟨#[98, 105, 110, 97, 114, 121, 45, 43]⟩, .int .i64 2]), (11, .agg #[.string ⟨#[98, 105, 110, 97, 114, 121, 45, 42]⟩, .int .i64 2]), (12, .agg #[.string ⟨#[117, 110, 97, 114, 121, 45, 45]⟩, .int .i64 1]), (13, .agg #[.string ⟨#[117, 110, 97, 114, 121, 45, 47]⟩, .int .i64 1]), (14, .agg #[.string ⟨#[60]⟩, .int .i64 2]), (15, .agg #[.string ⟨#[110, 117, 109, 101, 114, 97, 116, 111, 114]⟩, .int .i64 1]), (16, .agg #[.string ⟨#[100, 101, 110, 111, 109, 105, 110, 97, 116, 111, 114]⟩, .int .i64 1]), (17, .agg #[.string ⟨#[102, 108, 111, 111, 114]⟩, .int .i64 1]), (18, .agg #[.string ⟨#[115, 121, 109, 98, 111, 108, 45, 110, 97, 109, 101]⟩, .int .i64 1]), (19, .agg #[.string ⟨#[115, 121, 109, 98, 111, 108, 45, 112, 97, 99, 107, 97, 103, 101, 45, 110, 97, 109, 101]⟩, .int .i64 1]), (20, .agg #[.string ⟨#[105, 110, 116, 101, 114, 110]⟩, .int .i64 2]), (21, .agg #[.string ⟨#[115, 116, 114, 105, 110, 103, 45, 97, 112, 112, 101, 110, 100]⟩, .int .i64 2]), (22, .agg #[.string ⟨#[115, 116, 114, 105, 110, 103, 45, 108, 101, 110, 103, 116, 104]⟩, .int .i64 1]), (23, .agg #[.string ⟨#[115, 116, 114, 105, 110, 103, 45, 98, 121, 116, 101]⟩, .int .i64 2]), (24, .agg #[.string ⟨#[98, 121, 116, 101, 45, 115, 116, 114, 105, 110, 103]⟩, .int .i64 1])]).run Tryz.prog W = .ok (.slice (some ⟨W.heap.size, 0, none⟩) 25 25) (W.alloc (.cells rwA 75)) := fun W => by kernel_rfl
 go_enter Tryz.func43, Tryz.ntmps43
 go_wp2_with fail
 go_ret
 exact ⟨_, rfl, heap_alloc_new _ _, Nat.le_refl _, Below.alloc (Below.refl _ _) (Nat.le_refl _) _⟩
theorem fndI_ne {p n : List UInt8} (h : lispB ≠ p) : ∀ (l : List (List UInt8)) (k : Nat), fndI p n k l = none
 | [], _ => rfl
 | x :: r, k => by
  unfold fndI
  rw [if_neg (fun c => h c.1)]
  exact fndI_ne h r (k + 1)
set_option maxHeartbeats 4000000 in
set_option maxRecDepth 100000 in
theorem arityR (fp fn : ByteArray) (w : World) : Calls Tryz.prog 16 #[.agg #[.string fp, .string fn]] w (RetIB w (match fndP fp fn with | some i => arI i | none => 0) (fndP fp fn).isSome) := by
 obtain ⟨R, hR⟩ : ∃ R, fndP fp fn = R := ⟨_, rfl⟩
 rw [hR]
 have hR0 : Hid (fndI (LA fp) (LA fn) 0 (nmB.drop 0) = R) := hR
 clear hR
 have S0 := Sy.SB.new w (.string fp) (.string fn)
 have B0 : Below w.heap.size w (w.alloc (.cells #[.string fp, .string fn] 23)) := Below.alloc (Below.refl _ _) (Nat.le_refl _) _
 by_cases hp : lispB = LA fp
 · have hq : (fp.toList == [108, 105, 115, 112]) = true := by rw [Lib.toList_data, beq_iff_eq]; exact hp.symm
   have hq2 : (fp.toList != [108, 105, 115, 112]) = false := by rw [bne, hq]; rfl
   have hq3 : fp.toList = [108, 105, 115, 112] := by simpa using hq
   clear hq
   go_enter Tryz.func16, Tryz.ntmps16
   go_upto_region 1 with fail
   generalize w.alloc (.cells #[.string fp, .string fn] 23) = W at S0 B0 ⊢
   have l0 := S0.c0
   go_wp2_with fail
   refine (rowsR W).mono ?_
   rintro e w1 ⟨g, rfl, hg, hg0, hb⟩
   have HF : Hid (Below w.heap.size w w1 ∧ Sy.SB w1 w.heap.size (.string fp) (.string fn) ∧ Rw7 w1 g) := ⟨chain2 B0 hb (Nat.le_refl _), S0.keep hb, hg⟩
   clear hg hb l0 S0 B0
   go_wp2_with fail
   go_loopw [5] (fun v wr => ∃ (i : Nat), i ≤ 25 ∧ v = .int .i64 i ∧ Hid (fndI (LA fp) (LA fn) i (nmB.drop i) = R) ∧ Hid (Below w.heap.size w wr ∧ Sy.SB wr w.heap.size (.string fp) (.string fn) ∧ Rw7 wr g)) (fun v _ => 25 - (intOf v).toNat)
   case atStart => exact ⟨0, by omega, rfl, hR0, HF⟩
   case round =>
    obtain ⟨i, hi, rfl, hf, hE⟩ := hrel
    obtain ⟨wo, rfl⟩ : ∃ wo : World, wo = wr := ⟨_, rfl⟩
    clear HF hR0
    by_cases hiL : i < 25
    · have step := fndI_step (p := LA fp) (n := LA fn) hiL
      rw [hf.out] at step
      obtain ⟨k0, k1⟩ := hE.out.2.2.c hiL
      rw [Nat.zero_add] at k0 k1
      have l1 := hE.out.2.1.c1
      have hi1 : (0 : Int) ≤ (i : Int) := by omega
      have hi2 : (i : Int) < 25 := by omega
      have hq2' : decide (nmB.getD i [] = LA fn) = ((nmS i).toList == fn.toList) := (eqLB _ _).symm
      cases hq4 : ((nmS i).toList == fn.toList) with
      | false =>
       rw [hq4] at hq2'
       have st : R = fndI (LA fp) (LA fn) (i + 1) (nmB.drop (i + 1)) := by rw [step, if_neg (fun h => of_decide_eq_false hq2' h.2)]
       have ST := qh9 st
       clear st step hq2'
       go_wp2_with fail
       go_quiet (fail)
       go_wp2_with fail
       go_roundw
       case rel => exact ⟨i + 1, by omega, by go_num, ST.out.symm, ⟨hE.out.1.trans ((belowN _ _).mono hE.out.1.size), hE.out.2.1.keep (belowN _ _), hE.out.2.2.keep (belowN _ _)⟩⟩
       case measure => simp [intOf]; omega
      | true =>
       rw [hq4] at hq2'
       have st : R = some i := by rw [step, if_pos ⟨hp, of_decide_eq_true hq2'⟩]
       subst st
       clear step hq2'
       go_wp2_with fail
       go_quiet (fail)
       go_wp2_with fail
       go_ret2
       exact ⟨rfl, hE.out.1.trans ((belowN _ _).mono hE.out.1.size)⟩
    · have hiE : i = 25 := by omega
      subst hiE
      have st : R = none := hf.out.symm
      subst st
      go_wp2_with fail
      go_ret2
      exact ⟨rfl, hE.out.1⟩
 · have hq : (fp.toList == [108, 105, 115, 112]) = false := by rw [Lib.toList_data, beq_eq_false_iff_ne]; exact fun h => hp h.symm
   have st : R = none := hR0.out.symm.trans (fndI_ne hp _ _)
   subst st
   clear hR0
   go_enter Tryz.func16, Tryz.ntmps16
   go_upto_region 1 with fail
   generalize w.alloc (.cells #[.string fp, .string fn] 23) = W at S0 B0 ⊢
   have l0 := S0.c0
   go_wp2_with fail
   go_ret2
   exact ⟨rfl, B0⟩
def RetV (w : World) (v : Value) (e : Ending) (w' : World) : Prop := e = .returned v ∧ Below w.heap.size w w'
theorem RetS.lit {w w' : World} {x : Int} {e : Ending} {l : List UInt8} (h : RetS w x e w') (hx : text x = l) : RetV w (.string ⟨l.toArray⟩) e w' := by
 subst hx; exact h
theorem RetSS.lit {w w' : World} {x y : Int} {e : Ending} {l m : List UInt8} (h : RetSS w x y e w') (hx : text x = l) (hy : text y = m) : RetV w (.tuple #[.string ⟨l.toArray⟩, .string ⟨m.toArray⟩]) e w' := by
 subst hx hy; exact h

theorem c1 (w : World) : Calls Tryz.prog 132 #[.string ⟨#[45, 55]⟩, .string ⟨#[50]⟩] w (RetV w (.tuple #[.string ⟨#[45, 52]⟩, .string ⟨#[49]⟩])) :=
 (divide_any ⟨#[45, 55]⟩ ⟨#[50]⟩ w (by decide) (by decide) (by decide)).mono fun e w' h => RetSS.lit (l := [45, 52]) (m := [49]) h (by decide) (by decide)
theorem c2 (w : World) : Calls Tryz.prog 186 #[.string ⟨#[54]⟩, .string ⟨#[45, 52]⟩] w (RetV w (.tuple #[.string ⟨#[45, 51]⟩, .string ⟨#[50]⟩])) :=
 (reduce_pos ⟨#[54]⟩ ⟨#[45, 52]⟩ w (by decide) (by decide) (by decide)).mono fun e w' h => RetSS.lit (l := [45, 51]) (m := [50]) h (by decide) (by decide)
theorem c3 (w : World) : Calls Tryz.prog 157 #[.string ⟨#[57, 57, 57]⟩, .string ⟨#[50]⟩] w (RetV w (.string ⟨#[49, 48, 48, 49]⟩)) :=
 (add_any ⟨#[57, 57, 57]⟩ ⟨#[50]⟩ w (by decide) (by decide)).mono fun e w' h => RetS.lit (l := [49, 48, 48, 49]) h (by decide)
theorem c4 (w : World) : Calls Tryz.prog 158 #[.string ⟨#[45, 49, 50]⟩, .string ⟨#[49, 50]⟩] w (RetV w (.string ⟨#[45, 49, 52, 52]⟩)) :=
 (multiply_any ⟨#[45, 49, 50]⟩ ⟨#[49, 50]⟩ w (by decide) (by decide)).mono fun e w' h => RetS.lit (l := [45, 49, 52, 52]) h (by decide)
theorem c5 (w : World) : Calls Tryz.prog 198 #[.string ⟨#[48]⟩] w fun e w' => e = .returned (.bool true) ∧ w = w' :=
 (valid_any ⟨#[48]⟩ w (by decide)).mono fun e w' h => ⟨h.1.trans (ret_bool (by decide)), h.2⟩
theorem c6 (w : World) : Calls Tryz.prog 160 #[.int .i64 5] w fun e w' => e = .returned (.string ⟨#[53]⟩) ∧ w = w' :=
 (fromInt5 w).mono fun e w' h => ⟨h.1.trans (ret_string (show BA (text 5) = BA [53] by rw [show text 5 = [53] by decide])), h.2⟩
def isSmall (l : List UInt8) : Bool := decide ((body l).length ≤ 9)
def smallVal (l : List UInt8) : Int := if isSmall l then val l else 0

def RetNB (w : World) (x : Int) (b : Bool) (e : Ending) (w' : World) : Prop := e = .returned (.tuple #[.int .i64 x, .bool b]) ∧ Below w.heap.size w w'
theorem small_len {l : List UInt8} : isSmall l = decide ((digs (mag l)).length ≤ 9) := by
 unfold isSmall
 rw [body_len]
 by_cases h0 : mag l = 0
 · rw [if_pos h0, h0]; rfl
 · rw [if_neg h0]
theorem tail_lt {n k : Nat} (hn : (digs n).length ≤ 9) : ofD ((digs n).drop k) < 1000000000 := by
 have h1 := ofD_lt ((allDig_digs n).drop k)
 have h2 : ((digs n).drop k).length ≤ 9 := by rw [List.length_drop]; omega
 have h3 : 10 ^ ((digs n).drop k).length ≤ 10 ^ 9 := Nat.pow_le_pow_right (by decide) h2
 omega

set_option maxHeartbeats 2000000 in
set_option maxRecDepth 100000 in
theorem smallR (s : ByteArray) (w : World) (hs : s.size ≤ 400000000) :
 Calls Tryz.prog 105 #[.string s] w (RetNB w (smallVal (LA s)) (isSmall (LA s))) := by
 obtain ⟨L, hL⟩ : ∃ L, (digs (mag (LA s))).length = L := ⟨_, rfl⟩
 have hlen := small_len (l := LA s)
 rw [hL] at hlen
 have HL := qh9 hL
 by_cases h9 : L ≤ 9
 · have hsm : isSmall (LA s) = true := by rw [hlen]; exact decide_eq_true h9
   have hsv : smallVal (LA s) = val (LA s) := by unfold smallVal; rw [hsm]; rfl
   rw [hsm, hsv]
   have hmag : Hid (ofD ((digs (mag (LA s))).drop 0) = mag (LA s)) := by show _ = _; rw [List.drop_zero, ofD_digs]
   have hm9 : mag (LA s) < 1000000000 := by rw [← hmag.out]; exact tail_lt (by rw [hL]; exact h9)
   clear hsm hsv hlen hL
   cases hn : neg (LA s) with
   | false =>
    have hv : Hid (val (LA s) = (mag (LA s) : Int)) := by show _ = _; rw [val_eq, hn]; rfl
    replace hn := qh9 hn
    rw [hv.out]
    go_enter Tryz.func105, Tryz.ntmps105
    go_wp2_with fail
    refine (digitsR s _ (by omega)).mono ?_
    rintro e w1 ⟨A1, c1, rfl, hc1, hR1, hb1⟩
    rw [HL.out, hn.out]
    go_wp2
    go_loop [6, 7] (fun u v => ∃ k : Nat, k ≤ L ∧ v = .int .i64 ((k : Int) - 1) ∧ u = .int .i64 (ofD ((digs (mag (LA s))).drop k) : Nat)) (fun _ v => (intOf v + 1).toNat)
    case atStart => exact ⟨L, Nat.le_refl _, rfl, by rw [List.drop_eq_nil_of_le (by rw [HL.out]; exact Nat.le_refl _)]; rfl⟩
    obtain ⟨k, hk, rfl, rfl⟩ := hrel
    by_cases hk0 : 0 < k
    · obtain ⟨b1, o1, rfl, hB1, hcell1⟩ := hR1 (by rw [HL.out]; omega)
      replace hcell1 := hcell1 (k - 1) (by rw [HL.out]; omega)
      have hp0 : (0 : Int) ≤ (k : Int) - 1 := by omega
      have hp1 : (k : Int) - 1 < L := by omega
      have x0 := dg_nonneg (digs (mag (LA s))) (k - 1)
      have x1 := dg_lt (allDig_digs (mag (LA s))) (k - 1)
      have hstep : Hid (((ofD ((digs (mag (LA s))).drop (k - 1)) : Nat) : Int) = 10 * ((ofD ((digs (mag (LA s))).drop k) : Nat) : Int) + dg (digs (mag (LA s))) (k - 1)) := by
       show _ = _
       rw [drop_cons _ (k - 1) (by rw [HL.out]; omega), show k - 1 + 1 = k from by omega]
       unfold dg
       omega
      have hv1 := tail_lt (n := mag (LA s)) (k := k) (by rw [HL.out]; exact h9)
      go_wp2
      go_round
      case rel => exact ⟨k - 1, by omega, by go_num, by rw [hstep.out]⟩
      case measure => simp [intOf]; omega
    · obtain rfl : k = 0 := by omega
      rw [hmag.out]
      go_wp2
      go_ret2
      exact ⟨rfl, hb1⟩
   | true =>
    have hv : Hid (val (LA s) = -(mag (LA s) : Int)) := by show _ = _; rw [val_eq, hn]; rfl
    replace hn := qh9 hn
    rw [hv.out]
    go_enter Tryz.func105, Tryz.ntmps105
    go_wp2_with fail
    refine (digitsR s _ (by omega)).mono ?_
    rintro e w1 ⟨A1, c1, rfl, hc1, hR1, hb1⟩
    rw [HL.out, hn.out]
    go_wp2
    go_loop [6, 7] (fun u v => ∃ k : Nat, k ≤ L ∧ v = .int .i64 ((k : Int) - 1) ∧ u = .int .i64 (ofD ((digs (mag (LA s))).drop k) : Nat)) (fun _ v => (intOf v + 1).toNat)
    case atStart => exact ⟨L, Nat.le_refl _, rfl, by rw [List.drop_eq_nil_of_le (by rw [HL.out]; exact Nat.le_refl _)]; rfl⟩
    obtain ⟨k, hk, rfl, rfl⟩ := hrel
    by_cases hk0 : 0 < k
    · obtain ⟨b1, o1, rfl, hB1, hcell1⟩ := hR1 (by rw [HL.out]; omega)
      replace hcell1 := hcell1 (k - 1) (by rw [HL.out]; omega)
      have hp0 : (0 : Int) ≤ (k : Int) - 1 := by omega
      have hp1 : (k : Int) - 1 < L := by omega
      have x0 := dg_nonneg (digs (mag (LA s))) (k - 1)
      have x1 := dg_lt (allDig_digs (mag (LA s))) (k - 1)
      have hstep : Hid (((ofD ((digs (mag (LA s))).drop (k - 1)) : Nat) : Int) = 10 * ((ofD ((digs (mag (LA s))).drop k) : Nat) : Int) + dg (digs (mag (LA s))) (k - 1)) := by
       show _ = _
       rw [drop_cons _ (k - 1) (by rw [HL.out]; omega), show k - 1 + 1 = k from by omega]
       unfold dg
       omega
      have hv1 := tail_lt (n := mag (LA s)) (k := k) (by rw [HL.out]; exact h9)
      go_wp2
      go_round
      case rel => exact ⟨k - 1, by omega, by go_num, by rw [hstep.out]⟩
      case measure => simp [intOf]; omega
    · obtain rfl : k = 0 := by omega
      rw [hmag.out]
      go_wp2
      go_ret2
      exact ⟨rfl, hb1⟩
 · have hsm : isSmall (LA s) = false := by rw [hlen]; exact decide_eq_false h9
   have hsv : smallVal (LA s) = 0 := by unfold smallVal; rw [hsm]; rfl
   have h10 : 9 < L := by omega
   rw [hsm, hsv]
   clear hsm hsv hlen hL
   go_enter Tryz.func105, Tryz.ntmps105
   go_wp2_with fail
   refine (digitsR s _ (by omega)).mono ?_
   rintro e w1 ⟨A1, c1, rfl, hc1, hR1, hb1⟩
   rw [HL.out]
   go_wp2
   go_ret2
   exact ⟨rfl, hb1⟩
theorem tRO (w : World) (S : Nat → Prop) : Calls Tryz.prog 38 #[] w (RetO w S .t) := by
 go_enter Tryz.func38, Tryz.ntmps38
 go_wp2_with fail
 refine (lispO _ _).mono ?_
 rintro e w1 ⟨rfl, hb1⟩
 have hg := (hb1.block w.heap.size (by simp)).trans (heap_alloc_new w _)
 go_wp2_with fail
 refine (symO _ _ _ (fun _ => False)).mono ?_
 rintro e w2 ⟨p, rfl, hp, hb2⟩
 have h12 := hb1.size
 simp only [World.size_alloc] at h12
 have h23 := hb2.size
 replace hg := qh9 ((hb2.block w.heap.size (by omega)).trans hg)
 go_wp2_with (refine storeV (w1 := w2) rfl (.tmp 0) (.tmp 2) rfl w.heap.size _ _ rfl rfl hp _ _ hg.out rfl ?_)
 exact retV (o := .t) rfl rfl hg.out hp (fun h => by
  rcases h with h | ⟨h, _⟩
  · exact h
  · omega) (fun b hb => by
  rcases hb with hb | ⟨h1, h2⟩
  · exact hb.elim
  · exact .inr ⟨by omega, h2⟩) (Nat.le_refl _) (((Below.alloc (Below.refl _ _) (Nat.le_refl _) _).trans (hb1.mono (by simp))).trans (hb2.mono (by omega)))

theorem tRH (w : World) : Calls Tryz.prog 38 #[] w (RetH w .t) := (tRO w NoB).mono fun _ _ h => h.h (NoB.in w)
theorem nilRH (w : World) : Calls Tryz.prog 30 #[] w (RetH w .nil) := (nilO w NoB).mono fun _ _ h => h.h (NoB.in w)
theorem textRH (s : ByteArray) (w : World) : Calls Tryz.prog 26 #[.string s] w (RetH w (.str (LA s))) := (textO s w NoB).mono fun _ _ h => h.h (NoB.in w)
theorem symbolRH (p n : ByteArray) (w : World) : Calls Tryz.prog 32 #[.agg #[.string p, .string n]] w (RetH w (.sym (LA p) (LA n))) := (symO p n w NoB).mono fun _ _ h => h.h (NoB.in w)
theorem intRH (n : Int) (w : World) (h : I64 n) (ht : Tab w) : Calls Tryz.prog 27 #[.int .i64 n] w (RetH w (inO n)) := (intO n w NoB (NoB.in w) h ht).mono fun _ _ h => h.h (NoB.in w)
theorem ratRH (s t : ByteArray) (w : World) (hs : s.size ≤ 300000000) (ht : t.size ≤ 300000000) : Calls Tryz.prog 35 #[.string s, .string t] w (RetH w (.num (quo (LA s) (LA t)))) := (ratO s t w NoB (NoB.in w) hs ht).mono fun _ _ h => h.h (NoB.in w)
theorem integerR (n : Int) (w : World) (hn : (BA (text n)).size ≤ 300000000) : Calls Tryz.prog 35 #[.string (BA (text n)), .string ⟨#[49]⟩] w (RetH w (inO n)) := by
 have h := ratRH (BA (text n)) ⟨#[49]⟩ w hn (by decide)
 rw [show quo (LA (BA (text n))) (LA ⟨#[49]⟩) = (n : Rat) by rw [show (⟨#[49]⟩ : ByteArray) = BA (text 1) from by decide, quo_text, q_int]] at h
 exact h
set_option maxHeartbeats 4000000 in
set_option maxRecDepth 100000 in
theorem truthR (yes : Bool) (w : World) : Calls Tryz.prog 97 #[.bool yes] w (RetH w (trO yes)) := by
 cases yes with
 | true =>
  have T := Bx1.new w #[.int .i64 0, .string ⟨#[]⟩, .string ⟨#[]⟩, .string ⟨#[]⟩, .string ⟨#[]⟩, .string ⟨#[]⟩, .slice none 0 0]
  go_enter Tryz.func97, Tryz.ntmps97
  go_upto_region 1 with fail
  generalize w.alloc (.cells #[.int .i64 0, .string ⟨#[]⟩, .string ⟨#[]⟩, .string ⟨#[]⟩, .string ⟨#[]⟩, .string ⟨#[]⟩, .slice none 0 0] 36) = W at T ⊢
  have R0 := qh9 T.b0
  have HW := qh9 T.bel
  clear T  
  go_wp2_with fail
  with_reducible refine (tRH _).mono ?_
  rintro e w1 ⟨p, rfl, kp, hb⟩
  replace R0 := qh9 (R0.out.keep hb)
  replace HW := qc9 HW hb
  clear hb
  replace kp := qh9 kp
  go_wp2_with ((with_reducible refine storeB (w1 := w1) (g := w.heap.size) (b := .t) (p := p) (.tmp 2) (.tmp 4) ?_ ?_ ?_ ?_ kp.out R0.out ?_); rfl; rfl; rfl; rfl)
  exact retHs rfl rfl R0.out rfl kp.out (by omega) HW.out
 | false =>
  have T := Bx1.new w #[.int .i64 0, .string ⟨#[]⟩, .string ⟨#[]⟩, .string ⟨#[]⟩, .string ⟨#[]⟩, .string ⟨#[]⟩, .slice none 0 0]
  go_enter Tryz.func97, Tryz.ntmps97
  go_upto_region 1 with fail
  generalize w.alloc (.cells #[.int .i64 0, .string ⟨#[]⟩, .string ⟨#[]⟩, .string ⟨#[]⟩, .string ⟨#[]⟩, .string ⟨#[]⟩, .slice none 0 0] 36) = W at T ⊢
  have R0 := qh9 T.b0
  have HW := qh9 T.bel
  clear T  
  go_wp2_with fail
  with_reducible refine (nilRH _).mono ?_
  rintro e w1 ⟨p, rfl, kp, hb⟩
  replace R0 := qh9 (R0.out.keep hb)
  replace HW := qc9 HW hb
  clear hb
  replace kp := qh9 kp
  go_wp2_with ((with_reducible refine storeB (w1 := w1) (g := w.heap.size) (b := .nil) (p := p) (.tmp 2) (.tmp 5) ?_ ?_ ?_ ?_ kp.out R0.out ?_); rfl; rfl; rfl; rfl)
  exact retHs rfl rfl R0.out rfl kp.out (by omega) HW.out
set_option maxHeartbeats 4000000 in
set_option maxRecDepth 100000 in
theorem strR (x : Ob) (p : Value) (w : World) : Calls Tryz.prog 101 #[vO x p] w (RetY w (.string (BA x.strV))) := by
 have hs : BA x.strV = if x.kd == 3 then x.f5 else ⟨#[]⟩ := by cases x <;> rfl
 rw [hs]
 clear hs
 have T := Bx1.new w #[.int .i64 x.kd, .string x.f1, .string x.f2, .string x.f3, .string x.f4, .string x.f5, p]
 rw [vOK]
 generalize x.kd = k at *
 generalize x.f1 = s1 at *
 generalize x.f2 = s2 at *
 generalize x.f3 = s3 at *
 generalize x.f4 = s4 at *
 generalize x.f5 = s5 at *
 by_cases h1 : k = 3
 · subst h1
   go_enter Tryz.func101, Tryz.ntmps101
   go_wp2_with fail
   go_ret
   exact ⟨rfl, T.bel⟩
 · have hk : (k == 3) = false := by rw [beq_eq_false_iff_ne]; exact h1
   rw [hk]
   go_enter Tryz.func101, Tryz.ntmps101
   go_wp2_with fail
   go_ret
   exact ⟨rfl, T.bel⟩
theorem smallT (n : Int) (w : World) (h : I64 n) : Calls Tryz.prog 105 #[.string (BA (text n))] w (RetNB w (smallVal (text n)) (isSmall (text n))) := by
 have hl := text_length (x := n) (k := 20) (by have h1 := h.1; have h2 := h.2; omega)
 have := smallR (BA (text n)) w (by rw [BA_size]; omega)
 rw [LA_BA] at this
 exact this
theorem small_text {n : Int} (h0 : 0 ≤ n) (h1 : n < 100000000) : isSmall (text n) = true ∧ smallVal (text n) = n := by
 have hl := text_length (x := n) (k := 8) (by omega)
 have e : (body (text n)).length ≤ 9 := by
  unfold body
  rw [if_pos (valid_text n)]
  have hm : isMinus (text n) = false := by
   have h2 := neg_signText (decide (n < 0)) n.natAbs
   unfold neg at h2
   rw [valid_signText, Bool.true_and] at h2
   have h3 : isMinus (text n) = (decide (n < 0) && n.natAbs != 0) := h2
   rw [h3, decide_eq_false (by omega)]
   rfl
  unfold strip
  rw [hm]
  have h4 : (text n).length ≤ 9 := by
   unfold text signText
   rw [decide_eq_false (by omega)]
   exact magText_length (k := 8) (by omega)
  exact h4
 have e1 : isSmall (text n) = true := decide_eq_true e
 refine ⟨e1, ?_⟩
 unfold smallVal
 rw [e1, if_pos rfl, val_text]
theorem small_bool {n : Int} {lim : Nat} (hl : lim ≤ 1000000) (h : ¬ (0 ≤ n ∧ n < lim)) : isSmall (text n) = false ∨ (isSmall (text n) = true ∧ (smallVal (text n) < 0 ∨ (lim : Int) ≤ smallVal (text n))) := by
 cases hs : isSmall (text n) with
 | false => exact .inl rfl
 | true =>
  right
  refine ⟨rfl, ?_⟩
  unfold smallVal
  rw [hs, if_pos rfl, val_text]
  omega
def RetUB (w : World) (n : Int) (r : Bool) (e : Ending) (w' : World) : Prop := e = .returned (.tuple #[.int .u8 n, .bool r]) ∧ Below w.heap.size w w'
set_option maxHeartbeats 4000000 in
set_option maxRecDepth 100000 in
theorem indexA (x y : Ob) (p q : Value) (w : World) (hx : Hd w x p) (hy : Hd w y q) (hk : ¬ x.kd = 3) : Calls Tryz.prog 49 #[vO x p, vO y q] w (RetIB w 0 false) := by
 obtain ⟨a0, a1, a2, a3, a4, a5, ea⟩ := cells7 (x) p
 obtain ⟨b0, b1, b2, b3, b4, b5, eb⟩ := cells7 (y) q
 have T := Bx2.new w #[a0, a1, a2, a3, a4, a5, p] #[b0, b1, b2, b3, b4, b5, q]
 rw [vO_cells ea, vO_cells eb]
 go_enter Tryz.func49, Tryz.ntmps49
 go_upto_region 1 with fail
 generalize (w.alloc (.cells #[a0, a1, a2, a3, a4, a5, p] 36)).alloc (.cells #[b0, b1, b2, b3, b4, b5, q] 36) = W at T ⊢
 have B0 : Hid (Bx W (w.heap.size) (cellsO (x) p).toArray) := by rw [ea]; exact T.b0
 have K0 := qh9 (hx.below T.bel)
 have B1 : Hid (Bx W (w.heap.size + 1) (cellsO (y) q).toArray) := by rw [eb]; exact T.b1
 have K1 := qh9 (hy.below T.bel)
 have HW := qh9 T.bel
 try rw [← vO_cells ea]
 try rw [← vO_cells eb]
 clear T ea eb hx hy
 obtain ⟨m0, m1, m2, m3, m4, m5, m6⟩ := Bx.c (BxK B0.out)
 clear m1 m2 m3 m4 m5 m6
 generalize x.kd = k at m0 hk
 go_wp2_with (first | ((with_reducible refine loadB (.tmp 2) ?_ ?_ ?_ B0.out ?_); rfl; rfl; rfl) | ((with_reducible refine loadB (.tmp 3) ?_ ?_ ?_ B1.out ?_); rfl; rfl; rfl) | ((with_reducible refine loadG (.tmp 2) ?_ ?_ ?_ B0.out ?_); rfl; rfl; rfl) | ((with_reducible refine loadG (.tmp 3) ?_ ?_ ?_ B1.out ?_); rfl; rfl; rfl))
 go_ret2
 exact ⟨rfl, HW.out⟩
set_option maxHeartbeats 4000000 in
set_option maxRecDepth 100000 in
theorem indexB (x y : Ob) (p q : Value) (w : World) (hx : Hd w x p) (hy : Hd w y q) (hk : x.kd = 3) (hi : y.isInt = false) : Calls Tryz.prog 49 #[vO x p, vO y q] w (RetIB w 0 false) := by
 have CI : Hid (∀ W t, Calls Tryz.prog 40 #[vO y t] W (RetB W false)) := fun W t => by rw [← hi]; exact isIntegerR y t W
 clear hi
 obtain ⟨a0, a1, a2, a3, a4, a5, ea⟩ := cells7 (x) p
 obtain ⟨b0, b1, b2, b3, b4, b5, eb⟩ := cells7 (y) q
 have T := Bx2.new w #[a0, a1, a2, a3, a4, a5, p] #[b0, b1, b2, b3, b4, b5, q]
 rw [vO_cells ea, vO_cells eb]
 go_enter Tryz.func49, Tryz.ntmps49
 go_upto_region 1 with fail
 generalize (w.alloc (.cells #[a0, a1, a2, a3, a4, a5, p] 36)).alloc (.cells #[b0, b1, b2, b3, b4, b5, q] 36) = W at T ⊢
 have B0 : Hid (Bx W (w.heap.size) (cellsO (x) p).toArray) := by rw [ea]; exact T.b0
 have K0 := qh9 (hx.below T.bel)
 have B1 : Hid (Bx W (w.heap.size + 1) (cellsO (y) q).toArray) := by rw [eb]; exact T.b1
 have K1 := qh9 (hy.below T.bel)
 have HW := qh9 T.bel
 try rw [← vO_cells ea]
 try rw [← vO_cells eb]
 clear T ea eb hx hy
 obtain ⟨m0, m1, m2, m3, m4, m5, m6⟩ := Bx.c (BxK B0.out)
 clear m1 m2 m3 m4 m5 m6
 rw [hk] at m0
 clear hk
 go_wp2_with (first | ((with_reducible refine loadB (.tmp 2) ?_ ?_ ?_ B0.out ?_); rfl; rfl; rfl) | ((with_reducible refine loadB (.tmp 3) ?_ ?_ ?_ B1.out ?_); rfl; rfl; rfl) | ((with_reducible refine loadG (.tmp 2) ?_ ?_ ?_ B0.out ?_); rfl; rfl; rfl) | ((with_reducible refine loadG (.tmp 3) ?_ ?_ ?_ B1.out ?_); rfl; rfl; rfl))
 clear m0
 with_reducible refine (CI.out _ _).mono ?_
 rintro e w1 ⟨rfl, hb⟩
 replace B0 := qh9 (B0.out.keep hb)
 replace K0 := qh9 (K0.out.below hb)
 replace B1 := qh9 (B1.out.keep hb)
 replace K1 := qh9 (K1.out.below hb)
 replace HW := qc9 HW hb
 clear hb
 go_wp2_with (first | ((with_reducible refine loadB (.tmp 2) ?_ ?_ ?_ B0.out ?_); rfl; rfl; rfl) | ((with_reducible refine loadB (.tmp 3) ?_ ?_ ?_ B1.out ?_); rfl; rfl; rfl) | ((with_reducible refine loadG (.tmp 2) ?_ ?_ ?_ B0.out ?_); rfl; rfl; rfl) | ((with_reducible refine loadG (.tmp 3) ?_ ?_ ?_ B1.out ?_); rfl; rfl; rfl))
 go_ret2
 exact ⟨rfl, HW.out⟩
set_option maxHeartbeats 4000000 in
set_option maxRecDepth 100000 in
theorem indexC (x : Ob) (y : Rat) (p : Value) (w : World) (hx : Hd w x p) (hy : Hd w (.num y) (.slice none 0 0)) (hk : x.kd = 3) (hd : y.den = 1) (sv : Int) (is : Bool) (CS : Hid (∀ W, Calls Tryz.prog 105 #[.string (nt y)] W (fun e w' => e = .returned (.tuple #[.int .i64 sv, .bool is]) ∧ Below W.heap.size W w'))) (his : is = false) : Calls Tryz.prog 49 #[vO x p, vO (.num y) (.slice none 0 0)] w (RetIB w 0 false) := by
 have CI : Hid (∀ W t, Calls Tryz.prog 40 #[vO (.num y) t] W (RetB W true)) := fun W t => by
  have h := isIntegerR (.num y) t W
  rwa [show (Ob.num y).isInt = true from decide_eq_true hd] at h
 clear hd
 obtain ⟨a0, a1, a2, a3, a4, a5, ea⟩ := cells7 (x) p
 have eb : cellsO (.num y) (.slice none 0 0) = [.int .i64 1, .string (nt y), .string (dt y), .string ⟨#[]⟩, .string ⟨#[]⟩, .string ⟨#[]⟩, (.slice none 0 0)] := rfl
 have T := Bx2.new w #[a0, a1, a2, a3, a4, a5, p] #[.int .i64 1, .string (nt y), .string (dt y), .string ⟨#[]⟩, .string ⟨#[]⟩, .string ⟨#[]⟩, (.slice none 0 0)]
 rw [vO_cells ea, vO_cells eb]
 go_enter Tryz.func49, Tryz.ntmps49
 go_upto_region 1 with fail
 generalize (w.alloc (.cells #[a0, a1, a2, a3, a4, a5, p] 36)).alloc (.cells #[.int .i64 1, .string (nt y), .string (dt y), .string ⟨#[]⟩, .string ⟨#[]⟩, .string ⟨#[]⟩, (.slice none 0 0)] 36) = W at T ⊢
 have B0 : Hid (Bx W (w.heap.size) (cellsO (x) p).toArray) := by rw [ea]; exact T.b0
 have K0 := qh9 (hx.below T.bel)
 have B1 : Hid (Bx W (w.heap.size + 1) (cellsO (.num y) (.slice none 0 0)).toArray) := by rw [eb]; exact T.b1
 have K1 := qh9 (hy.below T.bel)
 have HW := qh9 T.bel
 try rw [← vO_cells ea]
 try rw [← vO_cells eb]
 clear T ea eb hx hy
 obtain ⟨m0, m1, m2, m3, m4, m5, m6⟩ := Bx.c (BxK B0.out)
 clear m1 m2 m3 m4 m5 m6
 rw [hk] at m0
 go_wp2_with (first | ((with_reducible refine loadB (.tmp 2) ?_ ?_ ?_ B0.out ?_); rfl; rfl; rfl) | ((with_reducible refine loadB (.tmp 3) ?_ ?_ ?_ B1.out ?_); rfl; rfl; rfl) | ((with_reducible refine loadG (.tmp 2) ?_ ?_ ?_ B0.out ?_); rfl; rfl; rfl) | ((with_reducible refine loadG (.tmp 3) ?_ ?_ ?_ B1.out ?_); rfl; rfl; rfl))
 clear m0
 with_reducible refine (CI.out _ _).mono ?_
 rintro e w1 ⟨rfl, hb⟩
 replace B0 := qh9 (B0.out.keep hb)
 replace K0 := qh9 (K0.out.below hb)
 replace B1 := qh9 (B1.out.keep hb)
 replace K1 := qh9 (K1.out.below hb)
 replace HW := qc9 HW hb
 clear hb
 obtain ⟨n0, n1, n2, n3, n4, n5, n6⟩ := Bx.c B1.out
 clear n0 n2 n3 n4 n5 n6
 go_wp2_with (first | ((with_reducible refine loadB (.tmp 2) ?_ ?_ ?_ B0.out ?_); rfl; rfl; rfl) | ((with_reducible refine loadB (.tmp 3) ?_ ?_ ?_ B1.out ?_); rfl; rfl; rfl) | ((with_reducible refine loadG (.tmp 2) ?_ ?_ ?_ B0.out ?_); rfl; rfl; rfl) | ((with_reducible refine loadG (.tmp 3) ?_ ?_ ?_ B1.out ?_); rfl; rfl; rfl))
 clear n1
 with_reducible refine (CS.out _).mono ?_
 rintro e w2 ⟨rfl, hb⟩
 replace B0 := qh9 (B0.out.keep hb)
 replace K0 := qh9 (K0.out.below hb)
 replace B1 := qh9 (B1.out.keep hb)
 replace K1 := qh9 (K1.out.below hb)
 replace HW := qc9 HW hb
 clear hb
 obtain ⟨m0, m1, m2, m3, m4, m5, m6⟩ := Bx.c (BxK B0.out)
 clear m0 m1 m2 m3 m4 m6 hk
 generalize x.f5 = s at *
 subst his
 go_wp2_with fail
 go_ret2
 exact ⟨rfl, HW.out⟩
set_option maxHeartbeats 4000000 in
set_option maxRecDepth 100000 in
theorem indexD (x : Ob) (y : Rat) (p : Value) (w : World) (hx : Hd w x p) (hy : Hd w (.num y) (.slice none 0 0)) (hk : x.kd = 3) (hd : y.den = 1) (sv : Int) (is : Bool) (CS : Hid (∀ W, Calls Tryz.prog 105 #[.string (nt y)] W (fun e w' => e = .returned (.tuple #[.int .i64 sv, .bool is]) ∧ Below W.heap.size W w'))) (his : is = true) (h1 : sv < 0) : Calls Tryz.prog 49 #[vO x p, vO (.num y) (.slice none 0 0)] w (RetIB w 0 false) := by
 have CI : Hid (∀ W t, Calls Tryz.prog 40 #[vO (.num y) t] W (RetB W true)) := fun W t => by
  have h := isIntegerR (.num y) t W
  rwa [show (Ob.num y).isInt = true from decide_eq_true hd] at h
 clear hd
 obtain ⟨a0, a1, a2, a3, a4, a5, ea⟩ := cells7 (x) p
 have eb : cellsO (.num y) (.slice none 0 0) = [.int .i64 1, .string (nt y), .string (dt y), .string ⟨#[]⟩, .string ⟨#[]⟩, .string ⟨#[]⟩, (.slice none 0 0)] := rfl
 have T := Bx2.new w #[a0, a1, a2, a3, a4, a5, p] #[.int .i64 1, .string (nt y), .string (dt y), .string ⟨#[]⟩, .string ⟨#[]⟩, .string ⟨#[]⟩, (.slice none 0 0)]
 rw [vO_cells ea, vO_cells eb]
 go_enter Tryz.func49, Tryz.ntmps49
 go_upto_region 1 with fail
 generalize (w.alloc (.cells #[a0, a1, a2, a3, a4, a5, p] 36)).alloc (.cells #[.int .i64 1, .string (nt y), .string (dt y), .string ⟨#[]⟩, .string ⟨#[]⟩, .string ⟨#[]⟩, (.slice none 0 0)] 36) = W at T ⊢
 have B0 : Hid (Bx W (w.heap.size) (cellsO (x) p).toArray) := by rw [ea]; exact T.b0
 have K0 := qh9 (hx.below T.bel)
 have B1 : Hid (Bx W (w.heap.size + 1) (cellsO (.num y) (.slice none 0 0)).toArray) := by rw [eb]; exact T.b1
 have K1 := qh9 (hy.below T.bel)
 have HW := qh9 T.bel
 try rw [← vO_cells ea]
 try rw [← vO_cells eb]
 clear T ea eb hx hy
 obtain ⟨m0, m1, m2, m3, m4, m5, m6⟩ := Bx.c (BxK B0.out)
 clear m1 m2 m3 m4 m5 m6
 rw [hk] at m0
 go_wp2_with (first | ((with_reducible refine loadB (.tmp 2) ?_ ?_ ?_ B0.out ?_); rfl; rfl; rfl) | ((with_reducible refine loadB (.tmp 3) ?_ ?_ ?_ B1.out ?_); rfl; rfl; rfl) | ((with_reducible refine loadG (.tmp 2) ?_ ?_ ?_ B0.out ?_); rfl; rfl; rfl) | ((with_reducible refine loadG (.tmp 3) ?_ ?_ ?_ B1.out ?_); rfl; rfl; rfl))
 clear m0
 with_reducible refine (CI.out _ _).mono ?_
 rintro e w1 ⟨rfl, hb⟩
 replace B0 := qh9 (B0.out.keep hb)
 replace K0 := qh9 (K0.out.below hb)
 replace B1 := qh9 (B1.out.keep hb)
 replace K1 := qh9 (K1.out.below hb)
 replace HW := qc9 HW hb
 clear hb
 obtain ⟨n0, n1, n2, n3, n4, n5, n6⟩ := Bx.c B1.out
 clear n0 n2 n3 n4 n5 n6
 go_wp2_with (first | ((with_reducible refine loadB (.tmp 2) ?_ ?_ ?_ B0.out ?_); rfl; rfl; rfl) | ((with_reducible refine loadB (.tmp 3) ?_ ?_ ?_ B1.out ?_); rfl; rfl; rfl) | ((with_reducible refine loadG (.tmp 2) ?_ ?_ ?_ B0.out ?_); rfl; rfl; rfl) | ((with_reducible refine loadG (.tmp 3) ?_ ?_ ?_ B1.out ?_); rfl; rfl; rfl))
 clear n1
 with_reducible refine (CS.out _).mono ?_
 rintro e w2 ⟨rfl, hb⟩
 replace B0 := qh9 (B0.out.keep hb)
 replace K0 := qh9 (K0.out.below hb)
 replace B1 := qh9 (B1.out.keep hb)
 replace K1 := qh9 (K1.out.below hb)
 replace HW := qc9 HW hb
 clear hb
 obtain ⟨m0, m1, m2, m3, m4, m5, m6⟩ := Bx.c (BxK B0.out)
 clear m0 m1 m2 m3 m4 m6 hk
 generalize x.f5 = s at *
 subst his
 go_wp2_with fail
 go_ret2
 exact ⟨rfl, HW.out⟩
set_option maxHeartbeats 4000000 in
set_option maxRecDepth 100000 in
theorem indexE (x : Ob) (y : Rat) (p : Value) (w : World) (hx : Hd w x p) (hy : Hd w (.num y) (.slice none 0 0)) (hk : x.kd = 3) (hd : y.den = 1) (sv : Int) (is : Bool) (CS : Hid (∀ W, Calls Tryz.prog 105 #[.string (nt y)] W (fun e w' => e = .returned (.tuple #[.int .i64 sv, .bool is]) ∧ Below W.heap.size W w'))) (his : is = true) (h1 : ¬ sv < 0) (h2 : (x.f5.size : Int) ≤ sv) : Calls Tryz.prog 49 #[vO x p, vO (.num y) (.slice none 0 0)] w (RetIB w 0 false) := by
 have CI : Hid (∀ W t, Calls Tryz.prog 40 #[vO (.num y) t] W (RetB W true)) := fun W t => by
  have h := isIntegerR (.num y) t W
  rwa [show (Ob.num y).isInt = true from decide_eq_true hd] at h
 clear hd
 obtain ⟨a0, a1, a2, a3, a4, a5, ea⟩ := cells7 (x) p
 have eb : cellsO (.num y) (.slice none 0 0) = [.int .i64 1, .string (nt y), .string (dt y), .string ⟨#[]⟩, .string ⟨#[]⟩, .string ⟨#[]⟩, (.slice none 0 0)] := rfl
 have T := Bx2.new w #[a0, a1, a2, a3, a4, a5, p] #[.int .i64 1, .string (nt y), .string (dt y), .string ⟨#[]⟩, .string ⟨#[]⟩, .string ⟨#[]⟩, (.slice none 0 0)]
 rw [vO_cells ea, vO_cells eb]
 go_enter Tryz.func49, Tryz.ntmps49
 go_upto_region 1 with fail
 generalize (w.alloc (.cells #[a0, a1, a2, a3, a4, a5, p] 36)).alloc (.cells #[.int .i64 1, .string (nt y), .string (dt y), .string ⟨#[]⟩, .string ⟨#[]⟩, .string ⟨#[]⟩, (.slice none 0 0)] 36) = W at T ⊢
 have B0 : Hid (Bx W (w.heap.size) (cellsO (x) p).toArray) := by rw [ea]; exact T.b0
 have K0 := qh9 (hx.below T.bel)
 have B1 : Hid (Bx W (w.heap.size + 1) (cellsO (.num y) (.slice none 0 0)).toArray) := by rw [eb]; exact T.b1
 have K1 := qh9 (hy.below T.bel)
 have HW := qh9 T.bel
 try rw [← vO_cells ea]
 try rw [← vO_cells eb]
 clear T ea eb hx hy
 obtain ⟨m0, m1, m2, m3, m4, m5, m6⟩ := Bx.c (BxK B0.out)
 clear m1 m2 m3 m4 m5 m6
 rw [hk] at m0
 go_wp2_with (first | ((with_reducible refine loadB (.tmp 2) ?_ ?_ ?_ B0.out ?_); rfl; rfl; rfl) | ((with_reducible refine loadB (.tmp 3) ?_ ?_ ?_ B1.out ?_); rfl; rfl; rfl) | ((with_reducible refine loadG (.tmp 2) ?_ ?_ ?_ B0.out ?_); rfl; rfl; rfl) | ((with_reducible refine loadG (.tmp 3) ?_ ?_ ?_ B1.out ?_); rfl; rfl; rfl))
 clear m0
 with_reducible refine (CI.out _ _).mono ?_
 rintro e w1 ⟨rfl, hb⟩
 replace B0 := qh9 (B0.out.keep hb)
 replace K0 := qh9 (K0.out.below hb)
 replace B1 := qh9 (B1.out.keep hb)
 replace K1 := qh9 (K1.out.below hb)
 replace HW := qc9 HW hb
 clear hb
 obtain ⟨n0, n1, n2, n3, n4, n5, n6⟩ := Bx.c B1.out
 clear n0 n2 n3 n4 n5 n6
 go_wp2_with (first | ((with_reducible refine loadB (.tmp 2) ?_ ?_ ?_ B0.out ?_); rfl; rfl; rfl) | ((with_reducible refine loadB (.tmp 3) ?_ ?_ ?_ B1.out ?_); rfl; rfl; rfl) | ((with_reducible refine loadG (.tmp 2) ?_ ?_ ?_ B0.out ?_); rfl; rfl; rfl) | ((with_reducible refine loadG (.tmp 3) ?_ ?_ ?_ B1.out ?_); rfl; rfl; rfl))
 clear n1
 with_reducible refine (CS.out _).mono ?_
 rintro e w2 ⟨rfl, hb⟩
 replace B0 := qh9 (B0.out.keep hb)
 replace K0 := qh9 (K0.out.below hb)
 replace B1 := qh9 (B1.out.keep hb)
 replace K1 := qh9 (K1.out.below hb)
 replace HW := qc9 HW hb
 clear hb
 obtain ⟨m0, m1, m2, m3, m4, m5, m6⟩ := Bx.c (BxK B0.out)
 clear m0 m1 m2 m3 m4 m6 hk
 generalize x.f5 = s at *
 subst his
 go_wp2_with fail
 go_ret2
 exact ⟨rfl, HW.out⟩
set_option maxHeartbeats 4000000 in
set_option maxRecDepth 100000 in
theorem indexF (x : Ob) (y : Rat) (p : Value) (w : World) (hx : Hd w x p) (hy : Hd w (.num y) (.slice none 0 0)) (hk : x.kd = 3) (hd : y.den = 1) (sv : Int) (is : Bool) (CS : Hid (∀ W, Calls Tryz.prog 105 #[.string (nt y)] W (fun e w' => e = .returned (.tuple #[.int .i64 sv, .bool is]) ∧ Below W.heap.size W w'))) (his : is = true) (h1 : ¬ sv < 0) (h2 : ¬ (x.f5.size : Int) ≤ sv) : Calls Tryz.prog 49 #[vO x p, vO (.num y) (.slice none 0 0)] w (RetIB w sv true) := by
 have CI : Hid (∀ W t, Calls Tryz.prog 40 #[vO (.num y) t] W (RetB W true)) := fun W t => by
  have h := isIntegerR (.num y) t W
  rwa [show (Ob.num y).isInt = true from decide_eq_true hd] at h
 clear hd
 obtain ⟨a0, a1, a2, a3, a4, a5, ea⟩ := cells7 (x) p
 have eb : cellsO (.num y) (.slice none 0 0) = [.int .i64 1, .string (nt y), .string (dt y), .string ⟨#[]⟩, .string ⟨#[]⟩, .string ⟨#[]⟩, (.slice none 0 0)] := rfl
 have T := Bx2.new w #[a0, a1, a2, a3, a4, a5, p] #[.int .i64 1, .string (nt y), .string (dt y), .string ⟨#[]⟩, .string ⟨#[]⟩, .string ⟨#[]⟩, (.slice none 0 0)]
 rw [vO_cells ea, vO_cells eb]
 go_enter Tryz.func49, Tryz.ntmps49
 go_upto_region 1 with fail
 generalize (w.alloc (.cells #[a0, a1, a2, a3, a4, a5, p] 36)).alloc (.cells #[.int .i64 1, .string (nt y), .string (dt y), .string ⟨#[]⟩, .string ⟨#[]⟩, .string ⟨#[]⟩, (.slice none 0 0)] 36) = W at T ⊢
 have B0 : Hid (Bx W (w.heap.size) (cellsO (x) p).toArray) := by rw [ea]; exact T.b0
 have K0 := qh9 (hx.below T.bel)
 have B1 : Hid (Bx W (w.heap.size + 1) (cellsO (.num y) (.slice none 0 0)).toArray) := by rw [eb]; exact T.b1
 have K1 := qh9 (hy.below T.bel)
 have HW := qh9 T.bel
 try rw [← vO_cells ea]
 try rw [← vO_cells eb]
 clear T ea eb hx hy
 obtain ⟨m0, m1, m2, m3, m4, m5, m6⟩ := Bx.c (BxK B0.out)
 clear m1 m2 m3 m4 m5 m6
 rw [hk] at m0
 go_wp2_with (first | ((with_reducible refine loadB (.tmp 2) ?_ ?_ ?_ B0.out ?_); rfl; rfl; rfl) | ((with_reducible refine loadB (.tmp 3) ?_ ?_ ?_ B1.out ?_); rfl; rfl; rfl) | ((with_reducible refine loadG (.tmp 2) ?_ ?_ ?_ B0.out ?_); rfl; rfl; rfl) | ((with_reducible refine loadG (.tmp 3) ?_ ?_ ?_ B1.out ?_); rfl; rfl; rfl))
 clear m0
 with_reducible refine (CI.out _ _).mono ?_
 rintro e w1 ⟨rfl, hb⟩
 replace B0 := qh9 (B0.out.keep hb)
 replace K0 := qh9 (K0.out.below hb)
 replace B1 := qh9 (B1.out.keep hb)
 replace K1 := qh9 (K1.out.below hb)
 replace HW := qc9 HW hb
 clear hb
 obtain ⟨n0, n1, n2, n3, n4, n5, n6⟩ := Bx.c B1.out
 clear n0 n2 n3 n4 n5 n6
 go_wp2_with (first | ((with_reducible refine loadB (.tmp 2) ?_ ?_ ?_ B0.out ?_); rfl; rfl; rfl) | ((with_reducible refine loadB (.tmp 3) ?_ ?_ ?_ B1.out ?_); rfl; rfl; rfl) | ((with_reducible refine loadG (.tmp 2) ?_ ?_ ?_ B0.out ?_); rfl; rfl; rfl) | ((with_reducible refine loadG (.tmp 3) ?_ ?_ ?_ B1.out ?_); rfl; rfl; rfl))
 clear n1
 with_reducible refine (CS.out _).mono ?_
 rintro e w2 ⟨rfl, hb⟩
 replace B0 := qh9 (B0.out.keep hb)
 replace K0 := qh9 (K0.out.below hb)
 replace B1 := qh9 (B1.out.keep hb)
 replace K1 := qh9 (K1.out.below hb)
 replace HW := qc9 HW hb
 clear hb
 obtain ⟨m0, m1, m2, m3, m4, m5, m6⟩ := Bx.c (BxK B0.out)
 clear m0 m1 m2 m3 m4 m6 hk
 generalize x.f5 = s at *
 subst his
 go_wp2_with fail
 go_ret2
 exact ⟨rfl, HW.out⟩
theorem indexR (x y : Ob) (p q : Value) (w : World) (hx : Hd w x p) (hy : Hd w y q) (hl : x.strV.length ≤ 2000) (h64 : IntO y) : Calls Tryz.prog 49 #[vO x p, vO y q] w (RetIB w (((idxV x.strV.length y).getD 0 : Nat) : Int) (idxV x.strV.length y).isSome) := by
 by_cases hk : x.kd = 3
 · cases y with
   | num y =>
    obtain rfl : q = .slice none 0 0 := hy.flat rfl
    by_cases hd : y.den = 1
    · have hI := h64 y rfl
      have CS := fun W => smallT y.num W hI
      have hs : x.f5.size = x.strV.length := by cases x <;> first | rfl | exact BA_size _
      by_cases hc : 0 ≤ y.num ∧ y.num < x.strV.length
      · have e : idxV x.strV.length (.num y) = some y.num.toNat := if_pos ⟨hd, hc⟩
        obtain ⟨h1, h2⟩ := small_text hc.1 (by omega)
        rw [e]
        show Calls _ _ _ _ (RetIB w ((y.num.toNat : Nat) : Int) true)
        rw [Int.toNat_of_nonneg hc.1]
        have h := indexF x y p w hx hy hk hd (smallVal (text y.num)) (isSmall (text y.num)) CS h1 (by rw [h2]; omega) (by rw [h2, hs]; omega)
        rw [h2] at h
        exact h
      · have e : idxV x.strV.length (.num y) = none := if_neg fun h9 => hc h9.2
        rw [e]
        show Calls _ _ _ _ (RetIB w 0 false)
        rcases small_bool (by omega) hc with h1 | ⟨h1, h2⟩
        · exact indexC x y p w hx hy hk hd _ _ CS h1
        · by_cases h3 : smallVal (text y.num) < 0
          · exact indexD x y p w hx hy hk hd _ _ CS h1 h3
          · exact indexE x y p w hx hy hk hd _ _ CS h1 h3 (by rw [hs]; omega)
    · have e : idxV x.strV.length (.num y) = none := if_neg fun h9 => hd h9.1
      rw [e]
      exact indexB x (.num y) p _ w hx hy hk (by show decide (y.den = 1) = false; exact decide_eq_false hd)
   | str s => exact indexB x (.str s) p q w hx hy hk rfl
   | sym s t => exact indexB x (.sym s t) p q w hx hy hk rfl
   | cons s t => exact indexB x (.cons s t) p q w hx hy hk rfl
 · have e0 : x.strV = [] := by cases x <;> first | rfl | exact absurd rfl hk
   have e : idxV x.strV.length y = none := by
    rw [e0]
    cases y with
    | num y => exact if_neg fun h9 => by have := h9.2.1; have := h9.2.2; simp at this; omega
    | _ => rfl
   rw [e]
   exact indexA x y p q w hx hy hk
set_option maxHeartbeats 4000000 in
set_option maxRecDepth 100000 in
theorem octetB (x : Ob) (p : Value) (w : World) (hx : Hd w x p) (hi : x.isInt = false) : Calls Tryz.prog 50 #[vO x p] w (RetUB w 0 false) := by
 have CI : Hid (∀ W t, Calls Tryz.prog 40 #[vO x t] W (RetB W false)) := fun W t => by rw [← hi]; exact isIntegerR x t W
 clear hi
 obtain ⟨a0, a1, a2, a3, a4, a5, ea⟩ := cells7 (x) p
 have T := Bx1.new w #[a0, a1, a2, a3, a4, a5, p]
 rw [vO_cells ea]
 go_enter Tryz.func50, Tryz.ntmps50
 go_upto_region 1 with fail
 generalize w.alloc (.cells #[a0, a1, a2, a3, a4, a5, p] 36) = W at T ⊢
 have B0 : Hid (Bx W (w.heap.size) (cellsO (x) p).toArray) := by rw [ea]; exact T.b0
 have K0 := qh9 (hx.below T.bel)
 have HW := qh9 T.bel
 try rw [← vO_cells ea]
 clear T ea hx
 go_wp2_with (first | ((with_reducible refine loadB (.tmp 1) ?_ ?_ ?_ B0.out ?_); rfl; rfl; rfl) | ((with_reducible refine loadG (.tmp 1) ?_ ?_ ?_ B0.out ?_); rfl; rfl; rfl))
 with_reducible refine (CI.out _ _).mono ?_
 rintro e w1 ⟨rfl, hb⟩
 replace B0 := qh9 (B0.out.keep hb)
 replace K0 := qh9 (K0.out.below hb)
 replace HW := qc9 HW hb
 clear hb
 go_wp2_with (first | ((with_reducible refine loadB (.tmp 1) ?_ ?_ ?_ B0.out ?_); rfl; rfl; rfl) | ((with_reducible refine loadG (.tmp 1) ?_ ?_ ?_ B0.out ?_); rfl; rfl; rfl))
 go_ret2
 exact ⟨rfl, HW.out⟩
set_option maxHeartbeats 4000000 in
set_option maxRecDepth 100000 in
theorem octetC (x : Rat) (w : World) (hx : Hd w (.num x) (.slice none 0 0)) (hd : x.den = 1) (sv : Int) (is : Bool) (CS : Hid (∀ W, Calls Tryz.prog 105 #[.string (nt x)] W (fun e w' => e = .returned (.tuple #[.int .i64 sv, .bool is]) ∧ Below W.heap.size W w'))) (his : is = false) : Calls Tryz.prog 50 #[vO (.num x) (.slice none 0 0)] w (RetUB w 0 false) := by
 have CI : Hid (∀ W t, Calls Tryz.prog 40 #[vO (.num x) t] W (RetB W true)) := fun W t => by
  have h := isIntegerR (.num x) t W
  rwa [show (Ob.num x).isInt = true from decide_eq_true hd] at h
 clear hd
 have ea : cellsO (.num x) (.slice none 0 0) = [.int .i64 1, .string (nt x), .string (dt x), .string ⟨#[]⟩, .string ⟨#[]⟩, .string ⟨#[]⟩, (.slice none 0 0)] := rfl
 have T := Bx1.new w #[.int .i64 1, .string (nt x), .string (dt x), .string ⟨#[]⟩, .string ⟨#[]⟩, .string ⟨#[]⟩, (.slice none 0 0)]
 rw [vO_cells ea]
 go_enter Tryz.func50, Tryz.ntmps50
 go_upto_region 1 with fail
 generalize w.alloc (.cells #[.int .i64 1, .string (nt x), .string (dt x), .string ⟨#[]⟩, .string ⟨#[]⟩, .string ⟨#[]⟩, (.slice none 0 0)] 36) = W at T ⊢
 have B1 : Hid (Bx W (w.heap.size) (cellsO (.num x) (.slice none 0 0)).toArray) := by rw [ea]; exact T.b0
 have K1 := qh9 (hx.below T.bel)
 have HW := qh9 T.bel
 try rw [← vO_cells ea]
 clear T ea hx
 go_wp2_with (first | ((with_reducible refine loadB (.tmp 1) ?_ ?_ ?_ B1.out ?_); rfl; rfl; rfl) | ((with_reducible refine loadG (.tmp 1) ?_ ?_ ?_ B1.out ?_); rfl; rfl; rfl))
 with_reducible refine (CI.out _ _).mono ?_
 rintro e w1 ⟨rfl, hb⟩
 replace B1 := qh9 (B1.out.keep hb)
 replace K1 := qh9 (K1.out.below hb)
 replace HW := qc9 HW hb
 clear hb
 obtain ⟨n0, n1, n2, n3, n4, n5, n6⟩ := Bx.c B1.out
 clear n0 n2 n3 n4 n5 n6
 go_wp2_with (first | ((with_reducible refine loadB (.tmp 1) ?_ ?_ ?_ B1.out ?_); rfl; rfl; rfl) | ((with_reducible refine loadG (.tmp 1) ?_ ?_ ?_ B1.out ?_); rfl; rfl; rfl))
 clear n1
 with_reducible refine (CS.out _).mono ?_
 rintro e w2 ⟨rfl, hb⟩
 replace B1 := qh9 (B1.out.keep hb)
 replace K1 := qh9 (K1.out.below hb)
 replace HW := qc9 HW hb
 clear hb
 subst his
 go_wp2_with fail
 go_ret2
 exact ⟨rfl, HW.out⟩
set_option maxHeartbeats 4000000 in
set_option maxRecDepth 100000 in
theorem octetD (x : Rat) (w : World) (hx : Hd w (.num x) (.slice none 0 0)) (hd : x.den = 1) (sv : Int) (is : Bool) (CS : Hid (∀ W, Calls Tryz.prog 105 #[.string (nt x)] W (fun e w' => e = .returned (.tuple #[.int .i64 sv, .bool is]) ∧ Below W.heap.size W w'))) (his : is = true) (h1 : sv < 0) : Calls Tryz.prog 50 #[vO (.num x) (.slice none 0 0)] w (RetUB w 0 false) := by
 have CI : Hid (∀ W t, Calls Tryz.prog 40 #[vO (.num x) t] W (RetB W true)) := fun W t => by
  have h := isIntegerR (.num x) t W
  rwa [show (Ob.num x).isInt = true from decide_eq_true hd] at h
 clear hd
 have ea : cellsO (.num x) (.slice none 0 0) = [.int .i64 1, .string (nt x), .string (dt x), .string ⟨#[]⟩, .string ⟨#[]⟩, .string ⟨#[]⟩, (.slice none 0 0)] := rfl
 have T := Bx1.new w #[.int .i64 1, .string (nt x), .string (dt x), .string ⟨#[]⟩, .string ⟨#[]⟩, .string ⟨#[]⟩, (.slice none 0 0)]
 rw [vO_cells ea]
 go_enter Tryz.func50, Tryz.ntmps50
 go_upto_region 1 with fail
 generalize w.alloc (.cells #[.int .i64 1, .string (nt x), .string (dt x), .string ⟨#[]⟩, .string ⟨#[]⟩, .string ⟨#[]⟩, (.slice none 0 0)] 36) = W at T ⊢
 have B1 : Hid (Bx W (w.heap.size) (cellsO (.num x) (.slice none 0 0)).toArray) := by rw [ea]; exact T.b0
 have K1 := qh9 (hx.below T.bel)
 have HW := qh9 T.bel
 try rw [← vO_cells ea]
 clear T ea hx
 go_wp2_with (first | ((with_reducible refine loadB (.tmp 1) ?_ ?_ ?_ B1.out ?_); rfl; rfl; rfl) | ((with_reducible refine loadG (.tmp 1) ?_ ?_ ?_ B1.out ?_); rfl; rfl; rfl))
 with_reducible refine (CI.out _ _).mono ?_
 rintro e w1 ⟨rfl, hb⟩
 replace B1 := qh9 (B1.out.keep hb)
 replace K1 := qh9 (K1.out.below hb)
 replace HW := qc9 HW hb
 clear hb
 obtain ⟨n0, n1, n2, n3, n4, n5, n6⟩ := Bx.c B1.out
 clear n0 n2 n3 n4 n5 n6
 go_wp2_with (first | ((with_reducible refine loadB (.tmp 1) ?_ ?_ ?_ B1.out ?_); rfl; rfl; rfl) | ((with_reducible refine loadG (.tmp 1) ?_ ?_ ?_ B1.out ?_); rfl; rfl; rfl))
 clear n1
 with_reducible refine (CS.out _).mono ?_
 rintro e w2 ⟨rfl, hb⟩
 replace B1 := qh9 (B1.out.keep hb)
 replace K1 := qh9 (K1.out.below hb)
 replace HW := qc9 HW hb
 clear hb
 subst his
 go_wp2_with fail
 go_ret2
 exact ⟨rfl, HW.out⟩
set_option maxHeartbeats 4000000 in
set_option maxRecDepth 100000 in
theorem octetE (x : Rat) (w : World) (hx : Hd w (.num x) (.slice none 0 0)) (hd : x.den = 1) (sv : Int) (is : Bool) (CS : Hid (∀ W, Calls Tryz.prog 105 #[.string (nt x)] W (fun e w' => e = .returned (.tuple #[.int .i64 sv, .bool is]) ∧ Below W.heap.size W w'))) (his : is = true) (h1 : ¬ sv < 0) (h2 : 255 < sv) : Calls Tryz.prog 50 #[vO (.num x) (.slice none 0 0)] w (RetUB w 0 false) := by
 have CI : Hid (∀ W t, Calls Tryz.prog 40 #[vO (.num x) t] W (RetB W true)) := fun W t => by
  have h := isIntegerR (.num x) t W
  rwa [show (Ob.num x).isInt = true from decide_eq_true hd] at h
 clear hd
 have ea : cellsO (.num x) (.slice none 0 0) = [.int .i64 1, .string (nt x), .string (dt x), .string ⟨#[]⟩, .string ⟨#[]⟩, .string ⟨#[]⟩, (.slice none 0 0)] := rfl
 have T := Bx1.new w #[.int .i64 1, .string (nt x), .string (dt x), .string ⟨#[]⟩, .string ⟨#[]⟩, .string ⟨#[]⟩, (.slice none 0 0)]
 rw [vO_cells ea]
 go_enter Tryz.func50, Tryz.ntmps50
 go_upto_region 1 with fail
 generalize w.alloc (.cells #[.int .i64 1, .string (nt x), .string (dt x), .string ⟨#[]⟩, .string ⟨#[]⟩, .string ⟨#[]⟩, (.slice none 0 0)] 36) = W at T ⊢
 have B1 : Hid (Bx W (w.heap.size) (cellsO (.num x) (.slice none 0 0)).toArray) := by rw [ea]; exact T.b0
 have K1 := qh9 (hx.below T.bel)
 have HW := qh9 T.bel
 try rw [← vO_cells ea]
 clear T ea hx
 go_wp2_with (first | ((with_reducible refine loadB (.tmp 1) ?_ ?_ ?_ B1.out ?_); rfl; rfl; rfl) | ((with_reducible refine loadG (.tmp 1) ?_ ?_ ?_ B1.out ?_); rfl; rfl; rfl))
 with_reducible refine (CI.out _ _).mono ?_
 rintro e w1 ⟨rfl, hb⟩
 replace B1 := qh9 (B1.out.keep hb)
 replace K1 := qh9 (K1.out.below hb)
 replace HW := qc9 HW hb
 clear hb
 obtain ⟨n0, n1, n2, n3, n4, n5, n6⟩ := Bx.c B1.out
 clear n0 n2 n3 n4 n5 n6
 go_wp2_with (first | ((with_reducible refine loadB (.tmp 1) ?_ ?_ ?_ B1.out ?_); rfl; rfl; rfl) | ((with_reducible refine loadG (.tmp 1) ?_ ?_ ?_ B1.out ?_); rfl; rfl; rfl))
 clear n1
 with_reducible refine (CS.out _).mono ?_
 rintro e w2 ⟨rfl, hb⟩
 replace B1 := qh9 (B1.out.keep hb)
 replace K1 := qh9 (K1.out.below hb)
 replace HW := qc9 HW hb
 clear hb
 subst his
 go_wp2_with fail
 go_ret2
 exact ⟨rfl, HW.out⟩
set_option maxHeartbeats 4000000 in
set_option maxRecDepth 100000 in
theorem octetF (x : Rat) (w : World) (hx : Hd w (.num x) (.slice none 0 0)) (hd : x.den = 1) (sv : Int) (is : Bool) (CS : Hid (∀ W, Calls Tryz.prog 105 #[.string (nt x)] W (fun e w' => e = .returned (.tuple #[.int .i64 sv, .bool is]) ∧ Below W.heap.size W w'))) (his : is = true) (h1 : ¬ sv < 0) (h2 : ¬ 255 < sv) : Calls Tryz.prog 50 #[vO (.num x) (.slice none 0 0)] w (RetUB w sv true) := by
 have CI : Hid (∀ W t, Calls Tryz.prog 40 #[vO (.num x) t] W (RetB W true)) := fun W t => by
  have h := isIntegerR (.num x) t W
  rwa [show (Ob.num x).isInt = true from decide_eq_true hd] at h
 clear hd
 have ea : cellsO (.num x) (.slice none 0 0) = [.int .i64 1, .string (nt x), .string (dt x), .string ⟨#[]⟩, .string ⟨#[]⟩, .string ⟨#[]⟩, (.slice none 0 0)] := rfl
 have T := Bx1.new w #[.int .i64 1, .string (nt x), .string (dt x), .string ⟨#[]⟩, .string ⟨#[]⟩, .string ⟨#[]⟩, (.slice none 0 0)]
 rw [vO_cells ea]
 go_enter Tryz.func50, Tryz.ntmps50
 go_upto_region 1 with fail
 generalize w.alloc (.cells #[.int .i64 1, .string (nt x), .string (dt x), .string ⟨#[]⟩, .string ⟨#[]⟩, .string ⟨#[]⟩, (.slice none 0 0)] 36) = W at T ⊢
 have B1 : Hid (Bx W (w.heap.size) (cellsO (.num x) (.slice none 0 0)).toArray) := by rw [ea]; exact T.b0
 have K1 := qh9 (hx.below T.bel)
 have HW := qh9 T.bel
 try rw [← vO_cells ea]
 clear T ea hx
 go_wp2_with (first | ((with_reducible refine loadB (.tmp 1) ?_ ?_ ?_ B1.out ?_); rfl; rfl; rfl) | ((with_reducible refine loadG (.tmp 1) ?_ ?_ ?_ B1.out ?_); rfl; rfl; rfl))
 with_reducible refine (CI.out _ _).mono ?_
 rintro e w1 ⟨rfl, hb⟩
 replace B1 := qh9 (B1.out.keep hb)
 replace K1 := qh9 (K1.out.below hb)
 replace HW := qc9 HW hb
 clear hb
 obtain ⟨n0, n1, n2, n3, n4, n5, n6⟩ := Bx.c B1.out
 clear n0 n2 n3 n4 n5 n6
 go_wp2_with (first | ((with_reducible refine loadB (.tmp 1) ?_ ?_ ?_ B1.out ?_); rfl; rfl; rfl) | ((with_reducible refine loadG (.tmp 1) ?_ ?_ ?_ B1.out ?_); rfl; rfl; rfl))
 clear n1
 with_reducible refine (CS.out _).mono ?_
 rintro e w2 ⟨rfl, hb⟩
 replace B1 := qh9 (B1.out.keep hb)
 replace K1 := qh9 (K1.out.below hb)
 replace HW := qc9 HW hb
 clear hb
 subst his
 have ew : IntKind.u8.wrap sv = sv := IntWalk.u8_in _ (by omega)
 go_wp2_with fail
 go_ret2
 exact ⟨rfl, HW.out⟩
theorem octetR (x : Ob) (p : Value) (w : World) (hx : Hd w x p) (h64 : IntO x) : Calls Tryz.prog 50 #[vO x p] w (RetUB w (((idxV 256 x).getD 0 : Nat) : Int) (idxV 256 x).isSome) := by
 cases x with
 | num y =>
  have hx' := hx
  obtain rfl : p = .slice none 0 0 := hx'
  by_cases hd : y.den = 1
  · have hI := h64 y rfl
    have CS := fun W => smallT y.num W hI
    by_cases hc : 0 ≤ y.num ∧ y.num < (256 : Nat)
    · have e : idxV 256 (.num y) = some y.num.toNat := if_pos ⟨hd, hc⟩
      obtain ⟨h1, h2⟩ := small_text hc.1 (by omega)
      rw [e]
      show Calls _ _ _ _ (RetUB w ((y.num.toNat : Nat) : Int) true)
      rw [Int.toNat_of_nonneg hc.1]
      have h := octetF y w hx hd (smallVal (text y.num)) (isSmall (text y.num)) CS h1 (by rw [h2]; omega) (by rw [h2]; omega)
      rw [h2] at h
      exact h
    · have e : idxV 256 (.num y) = none := if_neg fun h9 => hc h9.2
      rw [e]
      show Calls _ _ _ _ (RetUB w 0 false)
      rcases small_bool (by omega) hc with h1 | ⟨h1, h2⟩
      · exact octetC y w hx hd _ _ CS h1
      · by_cases h3 : smallVal (text y.num) < 0
        · exact octetD y w hx hd _ _ CS h1 h3
        · exact octetE y w hx hd _ _ CS h1 h3 (by omega)
  · have e : idxV 256 (.num y) = none := if_neg fun h9 => hd h9.1
    rw [e]
    exact octetB (.num y) _ w hx (by show decide (y.den = 1) = false; exact decide_eq_false hd)
 | str s => exact octetB (.str s) p w hx rfl
 | sym s t => exact octetB (.sym s t) p w hx rfl
 | cons s t => exact octetB (.cons s t) p w hx rfl
end Go.Proofs.YteaieeokfiikgaaGreatDoor
