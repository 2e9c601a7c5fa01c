import Derived.Test.YtbffnoodpoagcaaGreatDoorAl
import Derived.Test.YtbffnoodpoagcaaGreatDoorG24
import Derived.Test.YtbffnoodpoagcaaGreatDoorG11
import Derived.Test.YtbffnoodpoagcaaGreatDoorG13
import Derived.BigRegion
import Derived.Test.YtbffnoodpoagcaaGreatDoorG20
import Derived.Test.YtbffnoodpoagcaaGreatDoorG21
import Derived.Deep.RegionHeld3
import Derived.OwnWalk
import Derived.Deep.MidRow
import Derived.Test.YtbffnoodpoagcaaGreatDoorG18
namespace Go.Proofs.YtbffnoodpoagcaaGreatDoor
open Go Go.RowKit
set_option linter.unusedVariables false
def rwA : Array Value := #[.string ⟨#[105, 102]⟩, .int .i64 3, .string ⟨#[101, 113, 117, 97, 108]⟩, .int .i64 2, .string ⟨#[99, 111, 110, 115]⟩, .int .i64 2, .string ⟨#[99, 97, 114]⟩, .int .i64 1, .string ⟨#[99, 100, 114]⟩, .int .i64 1, .string ⟨#[99, 111, 110, 115, 112]⟩, .int .i64 1, .string ⟨#[115, 121, 109, 98, 111, 108, 112]⟩, .int .i64 1, .string ⟨#[115, 116, 114, 105, 110, 103, 112]⟩, .int .i64 1, .string ⟨#[114, 97, 116, 105, 111, 110, 97, 108, 112]⟩, .int .i64 1, .string ⟨#[105, 110, 116, 101, 103, 101, 114, 112]⟩, .int .i64 1, .string ⟨#[98, 105, 110, 97, 114, 121, 45, 43]⟩, .int .i64 2, .string ⟨#[98, 105, 110, 97, 114, 121, 45, 42]⟩, .int .i64 2, .string ⟨#[117, 110, 97, 114, 121, 45, 45]⟩, .int .i64 1, .string ⟨#[117, 110, 97, 114, 121, 45, 47]⟩, .int .i64 1, .string ⟨#[60]⟩, .int .i64 2, .string ⟨#[110, 117, 109, 101, 114, 97, 116, 111, 114]⟩, .int .i64 1, .string ⟨#[100, 101, 110, 111, 109, 105, 110, 97, 116, 111, 114]⟩, .int .i64 1, .string ⟨#[102, 108, 111, 111, 114]⟩, .int .i64 1, .string ⟨#[115, 121, 109, 98, 111, 108, 45, 110, 97, 109, 101]⟩, .int .i64 1, .string ⟨#[115, 121, 109, 98, 111, 108, 45, 112, 97, 99, 107, 97, 103, 101, 45, 110, 97, 109, 101]⟩, .int .i64 1, .string ⟨#[105, 110, 116, 101, 114, 110]⟩, .int .i64 2, .string ⟨#[115, 116, 114, 105, 110, 103, 45, 97, 112, 112, 101, 110, 100]⟩, .int .i64 2, .string ⟨#[115, 116, 114, 105, 110, 103, 45, 108, 101, 110, 103, 116, 104]⟩, .int .i64 1, .string ⟨#[115, 116, 114, 105, 110, 103, 45, 98, 121, 116, 101]⟩, .int .i64 2, .string ⟨#[98, 121, 116, 101, 45, 115, 116, 114, 105, 110, 103]⟩, .int .i64 1]
theorem rwA_row : ∀ (i : Nat), i < 25 → rwA[i * 2]? = some (.string (nmS i)) ∧ rwA[i * 2 + 1]? = some (.int .i64 (arI i))
 | 0, _ => ⟨rfl, rfl⟩
 | 1, _ => ⟨rfl, rfl⟩
 | 2, _ => ⟨rfl, rfl⟩
 | 3, _ => ⟨rfl, rfl⟩
 | 4, _ => ⟨rfl, rfl⟩
 | 5, _ => ⟨rfl, rfl⟩
 | 6, _ => ⟨rfl, rfl⟩
 | 7, _ => ⟨rfl, rfl⟩
 | 8, _ => ⟨rfl, rfl⟩
 | 9, _ => ⟨rfl, rfl⟩
 | 10, _ => ⟨rfl, rfl⟩
 | 11, _ => ⟨rfl, rfl⟩
 | 12, _ => ⟨rfl, rfl⟩
 | 13, _ => ⟨rfl, rfl⟩
 | 14, _ => ⟨rfl, rfl⟩
 | 15, _ => ⟨rfl, rfl⟩
 | 16, _ => ⟨rfl, rfl⟩
 | 17, _ => ⟨rfl, rfl⟩
 | 18, _ => ⟨rfl, rfl⟩
 | 19, _ => ⟨rfl, rfl⟩
 | 20, _ => ⟨rfl, rfl⟩
 | 21, _ => ⟨rfl, rfl⟩
 | 22, _ => ⟨rfl, rfl⟩
 | 23, _ => ⟨rfl, rfl⟩
 | 24, _ => ⟨rfl, rfl⟩
 | k + 25, h => absurd h (by omega)
def Rw7 (w : World) (g : Nat) : Prop := w.heap[g]? = some (.cells rwA 77 (0, 0))
theorem Rw7.keep {w w' : World} {g : Nat} (h : Rw7 w g) (hb : Below w.heap.size w w') : Rw7 w' g := (hb.block g (by
 rcases Nat.lt_or_ge g w.heap.size with hlt | hge
 · exact hlt
 · unfold Rw7 at h; rw [Array.getElem?_eq_none hge] at h; cases h)).trans h
theorem Rw7.c {w : World} {g i : Nat} (h : Rw7 w g) (hi : i < 25) : w.cell? ⟨g, 0 + i * 2, none⟩ = some (.string (nmS i)) ∧ w.cell? ⟨g, 0 + i * 2 + 1, none⟩ = some (.int .i64 (arI i)) := by
 obtain ⟨h1, h2⟩ := rwA_row i hi
 rw [cell_of_row _ _ _ _ _ _ h, cell_of_row _ _ _ _ _ _ h, Nat.zero_add]
 exact ⟨h1, h2⟩
set_option maxHeartbeats 4000000 in
set_option maxRecDepth 100000 in
theorem rowsR (w : World) : Calls Tryz.prog 44 #[] w fun e w' => ∃ g, e = .returned (.slice (some ⟨g, 0, none⟩) 25 25) ∧ Rw7 w' g ∧ w.heap.size ≤ g ∧ Below w.heap.size w w' := by
 have hbuild : ∀ W : World, (Instr.buildSlice 74 25 #[(0, .agg #[.string ⟨#[105, 102]⟩, .int .i64 3]), (1, .agg #[.string ⟨#[101, 113, 117, 97, 108]⟩, .int .i64 2]), (2, .agg #[.string ⟨#[99, 111, 110, 115]⟩, .int .i64 2]), (3, .agg #[.string ⟨#[99, 97, 114]⟩, .int .i64 1]), (4, .agg #[.string ⟨#[99, 100, 114]⟩, .int .i64 1]), (5, .agg #[.string ⟨#[99, 111, 110, 115, 112]⟩, .int .i64 1]), (6, .agg #[.string ⟨#[115, 121, 109, 98, 111, 108, 112]⟩, .int .i64 1]), (7, .agg #[.string ⟨#[115, 116, 114, 105, 110, 103, 112]⟩, .int .i64 1]), (8, .agg #[.string ⟨#[114, 97, 116, 105, 111, 110, 97, 108, 112]⟩, .int .i64 1]), (9, .agg #[.string ⟨#[105, 110, 116, 101, 103, 101, 114, 112]⟩, .int .i64 1]), (10, .agg #[.string ⟨#[98, 105, 110, 97, 114, 121, 45, 43]⟩, .int .i64 2]), (11, .agg #[.string ⟨#[98, 105, 110, 97, 114, 121, 45, 42]⟩, .int .i64 2]), (12, .agg #[.string ⟨#[117, 110, 97, 114, 121, 45, 45]⟩, .int .i64 1]), (13, .agg #[.string ⟨#[117, 110, 97, 114, 121, 45, 47]⟩, .int .i64 1]), (14, .agg #[.string ⟨#[60]⟩, .int .i64 2]), (15, .agg #[.string ⟨#[110, 117, 109, 101, 114, 97, 116, 111, 114]⟩, .int .i64 1]), (16, .agg #[.string ⟨#[100, 101, 110, 111, 109, 105, 110, 97, 116, 111, 114]⟩, .int .i64 1]), (17, .agg #[.string ⟨#[102, 108, 111, 111, 114]⟩, .int .i64 1]), (18, .agg #[.string ⟨#[115, 121, 109, 98, 111, 108, 45, 110, 97, 109, 101]⟩, .int .i64 1]), (19, .agg #[.string ⟨#[115, 121, 109, 98, 111, 108, 45, 112, 97, 99, 107, 97, 103, 101, 45, 110, 97, 109, 101]⟩, .int .i64 1]), (20, .agg #[.string ⟨#[105, 110, 116, 101, 114, 110]⟩, .int .i64 2]), (21, .agg #[.string ⟨#[115, 116, 114, 105, 110, 103, 45, 97, 112, 112, 101, 110, 100]⟩, .int .i64 2]), (22, .agg #[.string ⟨#[115, 116, 114, 105, 110, 103, 45, 108, 101, 110, 103, 116, 104]⟩, .int .i64 1]), (23, .agg #[.string ⟨#[115, 116, 114, 105, 110, 103, 45, 98, 121, 116, 101]⟩, .int .i64 2]), (24, .agg #[.string ⟨#[98, 121, 116, 101, 45, 115, 116, 114, 105, 110, 103]⟩, .int .i64 1])]).run Tryz.prog W = .ok (.slice (some ⟨W.heap.size, 0, none⟩) 25 25) (W.alloc (.cells rwA 77)) := fun W => by kernel_rfl
 go_enter Tryz.func44, Tryz.ntmps44
 go_wp2_with fail
 go_ret
 exact ⟨_, rfl, heap_alloc_new _ _, Nat.le_refl _, Below.alloc (Below.refl _ _) (Nat.le_refl _) _⟩
theorem fndI_ne {p n : List UInt8} (h : lispB ≠ p) : ∀ (l : List (List UInt8)) (k : Nat), fndI p n k l = none
 | [], _ => rfl
 | x :: r, k => by
  unfold fndI
  rw [if_neg (fun c => h c.1)]
  exact fndI_ne h r (k + 1)
set_option maxHeartbeats 4000000 in
set_option maxRecDepth 100000 in
theorem arityR (fp fn : ByteArray) (w : World) : Calls Tryz.prog 24 #[.agg #[.string fp, .string fn]] w (RetIB w (match fndP fp fn with | some i => arI i | none => 0) (fndP fp fn).isSome) := by
 obtain ⟨R, hR⟩ : ∃ R, fndP fp fn = R := ⟨_, rfl⟩
 rw [hR]
 have hR0 : Hid (fndI (LA fp) (LA fn) 0 (nmB.drop 0) = R) := hR
 clear hR
 have S0 := Sy.SB.new w (.string fp) (.string fn)
 have B0 : Below w.heap.size w (w.alloc (.cells #[.string fp, .string fn] 24)) := Below.alloc (Below.refl _ _) (Nat.le_refl _) _
 by_cases hp : lispB = LA fp
 · have hq : (fp.toList == [108, 105, 115, 112]) = true := by rw [Lib.toList_data, beq_iff_eq]; exact hp.symm
   have hq2 : (fp.toList != [108, 105, 115, 112]) = false := by rw [bne, hq]; rfl
   have hq3 : fp.toList = [108, 105, 115, 112] := by simpa using hq
   clear hq
   go_enter Tryz.func24, Tryz.ntmps24
   go_upto_region 1 with fail
   generalize w.alloc (.cells #[.string fp, .string fn] 24) = W at S0 B0 ⊢
   have l0 := S0.c0
   go_wp2_with fail
   refine (rowsR W).mono ?_
   rintro e w1 ⟨g, rfl, hg, hg0, hb⟩
   have HF : Hid (Below w.heap.size w w1 ∧ Sy.SB w1 w.heap.size (.string fp) (.string fn) ∧ Rw7 w1 g) := ⟨chain2 B0 hb (Nat.le_refl _), S0.keep hb, hg⟩
   clear hg hb l0 S0 B0
   go_wp2_with fail
   go_loopw [5] (fun v wr => ∃ (i : Nat), i ≤ 25 ∧ v = .int .i64 i ∧ Hid (fndI (LA fp) (LA fn) i (nmB.drop i) = R) ∧ Hid (Below w.heap.size w wr ∧ Sy.SB wr w.heap.size (.string fp) (.string fn) ∧ Rw7 wr g)) (fun v _ => 25 - (intOf v).toNat)
   case atStart => exact ⟨0, by omega, rfl, hR0, HF⟩
   case round =>
    obtain ⟨i, hi, rfl, hf, hE⟩ := hrel
    obtain ⟨wo, rfl⟩ : ∃ wo : World, wo = wr := ⟨_, rfl⟩
    clear HF hR0
    by_cases hiL : i < 25
    · have step := fndI_step (p := LA fp) (n := LA fn) hiL
      rw [hf.out] at step
      obtain ⟨k0, k1⟩ := hE.out.2.2.c hiL
      rw [Nat.zero_add] at k0 k1
      have l1 := hE.out.2.1.c1
      have hi1 : (0 : Int) ≤ (i : Int) := by omega
      have hi2 : (i : Int) < 25 := by omega
      have hq2' : decide (nmB.getD i [] = LA fn) = ((nmS i).toList == fn.toList) := (eqLB _ _).symm
      cases hq4 : ((nmS i).toList == fn.toList) with
      | false =>
       rw [hq4] at hq2'
       have st : R = fndI (LA fp) (LA fn) (i + 1) (nmB.drop (i + 1)) := by rw [step, if_neg (fun h => of_decide_eq_false hq2' h.2)]
       have ST := qh9 st
       clear st step hq2'
       go_wp2_with fail
       go_quiet (fail)
       go_wp2_with fail
       go_roundw
       case rel => exact ⟨i + 1, by omega, by go_num, ST.out.symm, ⟨hE.out.1.trans ((belowN _ _).mono hE.out.1.size), hE.out.2.1.keep (belowN _ _), hE.out.2.2.keep (belowN _ _)⟩⟩
       case measure => simp [intOf]; omega
      | true =>
       rw [hq4] at hq2'
       have st : R = some i := by rw [step, if_pos ⟨hp, of_decide_eq_true hq2'⟩]
       subst st
       clear step hq2'
       go_wp2_with fail
       go_quiet (fail)
       go_wp2_with fail
       go_ret2
       exact ⟨rfl, hE.out.1.trans ((belowN _ _).mono hE.out.1.size)⟩
    · have hiE : i = 25 := by omega
      subst hiE
      have st : R = none := hf.out.symm
      subst st
      go_wp2_with fail
      go_ret2
      exact ⟨rfl, hE.out.1⟩
 · have hq : (fp.toList == [108, 105, 115, 112]) = false := by rw [Lib.toList_data, beq_eq_false_iff_ne]; exact fun h => hp h.symm
   have st : R = none := hR0.out.symm.trans (fndI_ne hp _ _)
   subst st
   clear hR0
   go_enter Tryz.func24, Tryz.ntmps24
   go_upto_region 1 with fail
   generalize w.alloc (.cells #[.string fp, .string fn] 24) = W at S0 B0 ⊢
   have l0 := S0.c0
   go_wp2_with fail
   go_ret2
   exact ⟨rfl, B0⟩
def RetV (w : World) (v : Value) (e : Ending) (w' : World) : Prop := e = .returned v ∧ Below w.heap.size w w'
theorem RetS.lit {w w' : World} {x : Int} {e : Ending} {l : List UInt8} (h : RetS w x e w') (hx : text x = l) : RetV w (.string ⟨l.toArray⟩) e w' := by
 subst hx; exact h
theorem RetSS.lit {w w' : World} {x y : Int} {e : Ending} {l m : List UInt8} (h : RetSS w x y e w') (hx : text x = l) (hy : text y = m) : RetV w (.tuple #[.string ⟨l.toArray⟩, .string ⟨m.toArray⟩]) e w' := by
 subst hx hy; exact h

theorem c1 (w : World) : Calls Tryz.prog 141 #[.string ⟨#[45, 55]⟩, .string ⟨#[50]⟩] w (RetV w (.tuple #[.string ⟨#[45, 52]⟩, .string ⟨#[49]⟩])) :=
 (divide_any ⟨#[45, 55]⟩ ⟨#[50]⟩ w (by decide) (by decide) (by decide)).mono fun e w' h => RetSS.lit (l := [45, 52]) (m := [49]) h (by decide) (by decide)
theorem c2 (w : World) : Calls Tryz.prog 190 #[.string ⟨#[54]⟩, .string ⟨#[45, 52]⟩] w (RetV w (.tuple #[.string ⟨#[45, 51]⟩, .string ⟨#[50]⟩])) :=
 (reduce_pos ⟨#[54]⟩ ⟨#[45, 52]⟩ w (by decide) (by decide) (by decide)).mono fun e w' h => RetSS.lit (l := [45, 51]) (m := [50]) h (by decide) (by decide)
theorem c3 (w : World) : Calls Tryz.prog 166 #[.string ⟨#[57, 57, 57]⟩, .string ⟨#[50]⟩] w (RetV w (.string ⟨#[49, 48, 48, 49]⟩)) :=
 (add_any ⟨#[57, 57, 57]⟩ ⟨#[50]⟩ w (by decide) (by decide)).mono fun e w' h => RetS.lit (l := [49, 48, 48, 49]) h (by decide)
theorem c4 (w : World) : Calls Tryz.prog 167 #[.string ⟨#[45, 49, 50]⟩, .string ⟨#[49, 50]⟩] w (RetV w (.string ⟨#[45, 49, 52, 52]⟩)) :=
 (multiply_any ⟨#[45, 49, 50]⟩ ⟨#[49, 50]⟩ w (by decide) (by decide)).mono fun e w' h => RetS.lit (l := [45, 49, 52, 52]) h (by decide)
theorem c5 (w : World) : Calls Tryz.prog 177 #[.string ⟨#[48]⟩] w fun e w' => e = .returned (.bool true) ∧ w = w' :=
 (valid_any ⟨#[48]⟩ w (by decide)).mono fun e w' h => ⟨h.1.trans (ret_bool (by decide)), h.2⟩
theorem c6 (w : World) : Calls Tryz.prog 169 #[.int .i64 5] w fun e w' => e = .returned (.string ⟨#[53]⟩) ∧ w = w' :=
 (fromInt5 w).mono fun e w' h => ⟨h.1.trans (ret_string (show BA (text 5) = BA [53] by rw [show text 5 = [53] by decide])), h.2⟩


theorem tRO (w : World) (S : Nat → Prop) : Calls Tryz.prog 28 #[] w (RetO w S .t) := by
 go_enter Tryz.func28, Tryz.ntmps28
 go_wp2_with fail
 refine (lispO _ _).mono ?_
 rintro e w1 ⟨rfl, hb1⟩
 have hg := (hb1.block w.heap.size (by simp)).trans (heap_alloc_new w _)
 go_wp2_with fail
 refine (symO _ _ _ (fun _ => False)).mono ?_
 rintro e w2 ⟨p, rfl, hp, hb2⟩
 have h12 := hb1.size
 simp only [World.size_alloc] at h12
 have h23 := hb2.size
 replace hg := qh9 ((hb2.block w.heap.size (by omega)).trans hg)
 go_wp2_with (refine storeV (w1 := w2) rfl (.tmp 0) (.tmp 2) rfl w.heap.size _ _ rfl rfl hp _ _ hg.out rfl ?_)
 exact retV (o := .t) rfl rfl hg.out hp (fun h => by
  rcases h with h | ⟨h, _⟩
  · exact h
  · omega) (fun b hb => by
  rcases hb with hb | ⟨h1, h2⟩
  · exact hb.elim
  · exact .inr ⟨by omega, h2⟩) (Nat.le_refl _) (((Below.alloc (Below.refl _ _) (Nat.le_refl _) _).trans (hb1.mono (by simp))).trans (hb2.mono (by omega)))

theorem tRH (w : World) : Calls Tryz.prog 28 #[] w (RetH w .t) := (tRO w NoB).mono fun _ _ h => h.h (NoB.in w)
theorem textRH (s : ByteArray) (w : World) : Calls Tryz.prog 9 #[.string s] w (RetH w (.str (LA s))) := (textO s w NoB).mono fun _ _ h => h.h (NoB.in w)
theorem intRH (n : Int) (w : World) (h : I64 n) (ht : Tab w) : Calls Tryz.prog 10 #[.int .i64 n] w (RetH w (inO n)) := (intO n w NoB (NoB.in w) h ht).mono fun _ _ h => h.h (NoB.in w)


theorem mergeV {G P : Prop} (g : G) (h : G → P) : P := h g
section
variable {Q : Exit → Act → World → Prop} {ops : Array Oper} {K : Act → World → Prop} {a : Act} {w : World} {i : Nat} {o : Oper}
theorem gw_cat (ho : ops[i]? = some o) (hw : Region.wanted o (yielded ops a.tmps) = true) (s1 s2 : Tmp) (u v : ByteArray) (hop : o.op = Op.binOp BinOp.add 9 (.tmp s1) (.tmp s2) 9) (hx : a.tmps[s1]? = some (.string u)) (hy : a.tmps[s2]? = some (.string v)) (hn : u.size + v.size ≤ 1000000) (hK : K (a.put o.dst (.string (u ++ v))) w) : wpOp Tryz.prog ops Q i K a w :=
 wpOp_step ho fun K' hK' => by
  rw [if_pos hw]
  unfold Oper.wp
  simp only [execOp, hop]
  have h9 : ¬ 9223372036854775807 < u.size + v.size := by omega
  go_simp
  exact hK' _ _ hK
end
theorem BA_app (l m : List UInt8) : BA l ++ BA m = BA (l ++ m) := by
 apply ByteArray.ext
 simp [BA]
set_option maxHeartbeats 4000000 in
set_option maxRecDepth 100000 in
theorem val21 (x y : Ob) (b o c : Nat) (p q : Value) (w : World) (hx : Ad w x b o p) (hy : Ad w y b (o + 7) q) (hc : 2 ≤ c) (hlx : x.strV.length ≤ 2000) (hly : y.strV.length ≤ 2000) : Calls Tryz.prog 102 #[.slice (some ⟨b, o, none⟩) 2 c] w (RetH w (.str (x.strV ++ y.strV))) := by
 have hsz : (BA x.strV).size + (BA y.strV).size ≤ 1000000 := by rw [BA_size, BA_size]; omega
 have CT : Hid (∀ (z : Ob) W q, Calls Tryz.prog 145 #[vO z q] W (RetY W (.string (BA z.strV)))) := fun z W q => textV z q W
 have CU : Hid (∀ W, Calls Tryz.prog 142 #[.string (BA x.strV ++ BA y.strV)] W (RetH W (.str (x.strV ++ y.strV)))) := fun W => by
  have h := textH (BA x.strV ++ BA y.strV) W
  rw [BA_app, LA_BA] at h
  rw [BA_app]
  exact h
 generalize Ob.str (x.strV ++ y.strV) = res at CU ⊢
 have HX := qh9 hx
 have HY := qh9 hy
 clear hx hy
 have T := Bx1.new w #[.int .i64 0, .string ⟨#[]⟩, .string ⟨#[]⟩, .string ⟨#[]⟩, .string ⟨#[]⟩, .string ⟨#[]⟩, .slice none 0 0]
 go_enter Tryz.func102, Tryz.ntmps102
 go_upto_region 1 with fail
 generalize w.alloc (.cells #[.int .i64 0, .string ⟨#[]⟩, .string ⟨#[]⟩, .string ⟨#[]⟩, .string ⟨#[]⟩, .string ⟨#[]⟩, .slice none 0 0] 27) = W at T ⊢
 have R0 := qh9 T.b0
 have HW := qh9 T.bel
 clear T  
 replace HX := qh9 (HX.out.below HW.out)
 replace HY := qh9 (HY.out.below HW.out)
 have KX := qh9 HX.out.hd
 have KY := qh9 HY.out.hd
 go_wp2_with (first | ((with_reducible refine loadA ?_ ?_ HX.out ?_); exact ⟨_, rfl, rfl⟩; rfl) | ((with_reducible refine loadAG ?_ ?_ HX.out ?_); exact ⟨_, rfl, rfl⟩; rfl) | ((with_reducible refine loadA ?_ ?_ HY.out ?_); exact ⟨_, rfl, rfl⟩; rfl) | ((with_reducible refine loadAG ?_ ?_ HY.out ?_); exact ⟨_, rfl, rfl⟩; rfl))
 refine wp_region_grow (l := _) 10 (by kernel_rfl) (by kernel_rfl) (fun i => [3, 4, 5, 6, 7, 8, 9, 10, 11, 12].getD i 0) (LR [LV (.slice (some ⟨b, o, none⟩) 2 c), LV (.pointer (some ⟨b, o, none⟩)), LV (vO (x) p), LV (.string (BA x.strV)), LV (.slice (some ⟨b, o, none⟩) 2 c), LV (.pointer (some ⟨b, o + 7, none⟩)), LV (vO (y) q), LV (.string (BA y.strV)), LV (.string (BA x.strV ++ BA y.strV)), LH (res)]) (LR_mono (l := [LV (.slice (some ⟨b, o, none⟩) 2 c), LV (.pointer (some ⟨b, o, none⟩)), LV (vO (x) p), LV (.string (BA x.strV)), LV (.slice (some ⟨b, o, none⟩) 2 c), LV (.pointer (some ⟨b, o + 7, none⟩)), LV (vO (y) q), LV (.string (BA y.strV)), LV (.string (BA x.strV ++ BA y.strV)), LH (res)]) ⟨mLV _, mLV _, mLV _, mLV _, mLV _, mLV _, mLV _, mLV _, mLV _, mLH _, trivial⟩) (by
  intro i j hi hj h
  exact inj_getD [3, 4, 5, 6, 7, 8, 9, 10, 11, 12] (by decide) i j hi hj h) (by
  intro i hi
  exact lt_getD 13 [3, 4, 5, 6, 7, 8, 9, 10, 11, 12] (by decide) i hi) ?step ?done
 case step =>
  intro i hi a w9 v lo hi' hoth hb hw
  have sl0 : a.tmps[0]? = some (.slice (some ⟨b, o, none⟩) 2 c) := (hoth 0 (fun j hj => by
   have := ne_getD 0 [3, 4, 5, 6, 7, 8, 9, 10, 11, 12] (by decide) j hj
   exact this)).trans rfl
  match i, hi with
  | 0, _ =>
   exact gw_move rfl (wanted_plain rfl) 0 _ rfl sl0 ⟨_, rfl, Below.refl _ _, rfl⟩
  | 1, _ =>
   obtain ⟨s0, r0, _⟩ := hw 0 (by omega) (by kernel_rfl)
   have e0 : v 0 = .slice (some ⟨b, o, none⟩) 2 c := r0
   rw [e0] at s0
   exact gw_idx20 rfl (wanted_plain rfl) 3 _ _ _ rfl s0 ⟨_, rfl, Below.refl _ _, rfl⟩
  | 2, _ =>
   obtain ⟨s0, r0, _⟩ := hw 1 (by omega) (by kernel_rfl)
   have e0 : v 1 = .pointer (some ⟨b, o, none⟩) := r0
   rw [e0] at s0
   exact gw_lda rfl (wanted_plain rfl) 4 rfl s0 (HX.out.below hb) ⟨_, rfl, Below.refl _ _, rfl⟩
  | 3, _ =>
   obtain ⟨s0, r0, _⟩ := hw 2 (by omega) (by kernel_rfl)
   have e0 : v 2 = vO (x) p := r0
   rw [e0] at s0
   refine gw_t rfl (wanted_plain rfl) 145 5 _ _ rfl (fun v w => by go_simp) s0 ?_
   with_reducible refine (CT.out x w9 _).mono ?_
   rintro e w3 ⟨rfl, hb3⟩
   exact ⟨_, rfl, _, rfl, hb3, rfl⟩
  | 4, _ =>
   exact gw_move rfl (wanted_plain rfl) 0 _ rfl sl0 ⟨_, rfl, Below.refl _ _, rfl⟩
  | 5, _ =>
   obtain ⟨s0, r0, _⟩ := hw 4 (by omega) (by kernel_rfl)
   have e0 : v 4 = .slice (some ⟨b, o, none⟩) 2 c := r0
   rw [e0] at s0
   exact gw_idx21 rfl (wanted_plain rfl) 7 _ _ _ rfl s0 ⟨_, rfl, Below.refl _ _, rfl⟩
  | 6, _ =>
   obtain ⟨s0, r0, _⟩ := hw 5 (by omega) (by kernel_rfl)
   have e0 : v 5 = .pointer (some ⟨b, o + 7, none⟩) := r0
   rw [e0] at s0
   exact gw_lda rfl (wanted_plain rfl) 8 rfl s0 (HY.out.below hb) ⟨_, rfl, Below.refl _ _, rfl⟩
  | 7, _ =>
   obtain ⟨s0, r0, _⟩ := hw 6 (by omega) (by kernel_rfl)
   have e0 : v 6 = vO (y) q := r0
   rw [e0] at s0
   refine gw_t rfl (wanted_plain rfl) 145 9 _ _ rfl (fun v w => by go_simp) s0 ?_
   with_reducible refine (CT.out y w9 _).mono ?_
   rintro e w3 ⟨rfl, hb3⟩
   exact ⟨_, rfl, _, rfl, hb3, rfl⟩
  | 8, _ =>
   obtain ⟨s0, r0, _⟩ := hw 3 (by omega) (by kernel_rfl)
   have e0 : v 3 = .string (BA x.strV) := r0
   rw [e0] at s0
   obtain ⟨s1, r1, _⟩ := hw 7 (by omega) (by kernel_rfl)
   have e1 : v 7 = .string (BA y.strV) := r1
   rw [e1] at s1
   exact gw_cat rfl (wanted_plain rfl) 6 10 _ _ rfl s0 s1 hsz ⟨_, rfl, Below.refl _ _, rfl⟩
  | 9, _ =>
   obtain ⟨s0, r0, _⟩ := hw 8 (by omega) (by kernel_rfl)
   have e0 : v 8 = .string (BA x.strV ++ BA y.strV) := r0
   rw [e0] at s0
   refine gw_t rfl (wanted_plain rfl) 142 11 _ _ rfl (fun v w => by go_simp) s0 ?_
   with_reducible refine (CU.out w9).mono ?_
   rintro e w3 ⟨p, rfl, hp, hb3⟩
   exact ⟨_, rfl, _, rfl, hb3, p, rfl, hp⟩
 case done =>
  intro a w9 v lo hi' hdef hsz hoth hb hj hap
  obtain ⟨_, ⟨pr, hv9, kr⟩, hlo9, hhi9⟩ := hj 9 (by omega)
  have ha := eq_puts hdef hsz hoth (fun i hi => (hj i hi).1)
  subst ha
  clear hj hoth hdef hsz hap
  simp only [puts, List.getD_cons_zero, List.getD_cons_succ, hv9]
  generalize v 0 = v0
  generalize v 1 = v1
  generalize v 2 = v2
  generalize v 3 = v3
  generalize v 4 = v4
  generalize v 5 = v5
  generalize v 6 = v6
  generalize v 7 = v7
  generalize v 8 = v8
  clear hv9
  simp only [Act.put, List.setIfInBounds_toArray, List.set_cons_zero, List.set_cons_succ]
  show wpList _ _ _ [_] _ _
  replace R0 := qh9 (R0.out.keep hb)
  replace HW := qc9 HW hb
  replace KX := qh9 (KX.out.below hb)
  replace KY := qh9 (KY.out.below hb)
  replace HX := qh9 (HX.out.below hb)
  replace HY := qh9 (HY.out.below hb)
  clear hb
  replace kr := qh9 kr
  go_wp2_with (first | ((with_reducible refine storeB (w1 := w9) (g := w.heap.size) (b := res) (p := pr) (.tmp 2) (.tmp 12) ?_ ?_ ?_ ?_ kr.out R0.out ?_); rfl; rfl; rfl; rfl) | ((with_reducible refine loadA ?_ ?_ HX.out ?_); exact ⟨_, rfl, rfl⟩; rfl) | ((with_reducible refine loadAG ?_ ?_ HX.out ?_); exact ⟨_, rfl, rfl⟩; rfl) | ((with_reducible refine loadA ?_ ?_ HY.out ?_); exact ⟨_, rfl, rfl⟩; rfl) | ((with_reducible refine loadAG ?_ ?_ HY.out ?_); exact ⟨_, rfl, rfl⟩; rfl))
  exact retHs rfl rfl R0.out rfl kr.out (by omega) HW.out
set_option maxHeartbeats 4000000 in
set_option maxRecDepth 100000 in
theorem val20N (x y : Ob) (b o c : Nat) (p q : Value) (w : World) (hx : Ad w x b o p) (hy : Ad w y b (o + 7) q) (hc : 2 ≤ c) (hr : Hid ([x, y].all Ob.isStrB = false)) : Calls Tryz.prog 100 #[.slice (some ⟨b, o, none⟩) 2 c] w (RetH w .nil) := by
 have HX := qh9 hx
 have HY := qh9 hy
 clear hx hy
 have T := Bx1.new w #[.int .i64 0, .string ⟨#[]⟩, .string ⟨#[]⟩, .string ⟨#[]⟩, .string ⟨#[]⟩, .string ⟨#[]⟩, .slice none 0 0]
 go_enter Tryz.func100, Tryz.ntmps100
 go_upto_region 1 with fail
 generalize w.alloc (.cells #[.int .i64 0, .string ⟨#[]⟩, .string ⟨#[]⟩, .string ⟨#[]⟩, .string ⟨#[]⟩, .string ⟨#[]⟩, .slice none 0 0] 27) = W at T ⊢
 have R0 := qh9 T.b0
 have HW := qh9 T.bel
 clear T  
 replace HX := qh9 (HX.out.below HW.out)
 replace HY := qh9 (HY.out.below HW.out)
 have HA : Hid (∀ X, Below W.heap.size W X → Ar X [x, y] (.slice (some ⟨b, o, none⟩) 2 c)) := qh9 fun X h => ar2 (HX.out.below h) (HY.out.below h) hc
 have h1 : Below W.heap.size W W.drew := (Below.refl _ _).drew
 have h2 : Below W.heap.size W (W.alloc (.cells #[.string ⟨#[]⟩, .string ⟨#[]⟩] 24)).drew := (Below.alloc (Below.refl _ _) (Nat.le_refl _) _).drew
 obtain ⟨_, _, _, _, _, mx5, _⟩ := HX.out.k
 obtain ⟨_, _, _, _, _, my5, _⟩ := HY.out.k
 obtain ⟨_, _, _, _, _, dx5, _⟩ := (HX.out.below h1).k
 obtain ⟨_, _, _, _, _, dy5, _⟩ := (HY.out.below h1).k
 obtain ⟨_, _, _, _, _, ex5, _⟩ := (HX.out.below h2).k
 obtain ⟨_, _, _, _, _, ey5, _⟩ := (HY.out.below h2).k
 simp only [Nat.add_assoc, Nat.reduceAdd] at my5 dy5 ey5
 clear h1 h2
 generalize x.f5 = s2 at *
 generalize y.f5 = s1 at *
 go_wp2_with fail
 apply mergeV
 case h =>
  intro hG
  go_region_with (fail)
  all_goals exact hG
 clear mx5 my5 dx5 dy5 ex5 ey5
 have hb : Below W.heap.size W (W.alloc (.cells #[.string s1, .string s2] 24)).drew := (Below.alloc (Below.refl _ _) (Nat.le_refl _) _).drew
 have hS : Sy.SB (W.alloc (.cells #[.string s1, .string s2] 24)).drew W.heap.size (.string s1) (.string s2) := Sy.SB.new W _ _
 have CS : Hid (∀ X, Below W.heap.size W X → Calls Tryz.prog 101 #[.slice (some ⟨b, o, none⟩) 2 c] X (RetB X false)) := fun X h => by
  have h3 := areStringsP [x, y] _ X (HA.out X h) (Nat.le_of_ble_eq_true rfl)
  rw [hr.out] at h3
  exact h3
 generalize (W.alloc (.cells #[.string s1, .string s2] 24)).drew = W2 at hb hS ⊢
 have HS := qh9 hS
 clear hS
 have HB2 := qh9 hb
 replace R0 := qh9 (R0.out.keep hb)
 replace HW := qc9 HW hb
 replace HX := qh9 (HX.out.below hb)
 replace HY := qh9 (HY.out.below hb)
 clear hb HA
 go_wp2_with (first | ((with_reducible refine loadA ?_ ?_ HX.out ?_); exact ⟨_, rfl, rfl⟩; rfl) | ((with_reducible refine loadAG ?_ ?_ HX.out ?_); exact ⟨_, rfl, rfl⟩; rfl) | ((with_reducible refine loadA ?_ ?_ HY.out ?_); exact ⟨_, rfl, rfl⟩; rfl) | ((with_reducible refine loadAG ?_ ?_ HY.out ?_); exact ⟨_, rfl, rfl⟩; rfl))
 with_reducible refine (CS.out _ HB2.out).mono ?_
 rintro e w1 ⟨rfl, hb⟩
 replace R0 := qh9 (R0.out.keep hb)
 replace HW := qc9 HW hb
 replace HX := qh9 (HX.out.below hb)
 replace HY := qh9 (HY.out.below hb)
 clear hb
 clear CS
 clear hr HS
 go_wp2_with (first | ((with_reducible refine loadA ?_ ?_ HX.out ?_); exact ⟨_, rfl, rfl⟩; rfl) | ((with_reducible refine loadAG ?_ ?_ HX.out ?_); exact ⟨_, rfl, rfl⟩; rfl) | ((with_reducible refine loadA ?_ ?_ HY.out ?_); exact ⟨_, rfl, rfl⟩; rfl) | ((with_reducible refine loadAG ?_ ?_ HY.out ?_); exact ⟨_, rfl, rfl⟩; rfl))
 with_reducible refine (nilH _).mono ?_
 rintro e w2 ⟨pr, rfl, kr, hb⟩
 replace R0 := qh9 (R0.out.keep hb)
 replace HW := qc9 HW hb
 replace HX := qh9 (HX.out.below hb)
 replace HY := qh9 (HY.out.below hb)
 clear hb
 replace kr := qh9 kr
 go_wp2_with (first | ((with_reducible refine storeB (w1 := w2) (g := w.heap.size) (b := .nil) (p := pr) (.tmp 2) (.tmp 21) ?_ ?_ ?_ ?_ kr.out R0.out ?_); rfl; rfl; rfl; rfl) | ((with_reducible refine loadA ?_ ?_ HX.out ?_); exact ⟨_, rfl, rfl⟩; rfl) | ((with_reducible refine loadAG ?_ ?_ HX.out ?_); exact ⟨_, rfl, rfl⟩; rfl) | ((with_reducible refine loadA ?_ ?_ HY.out ?_); exact ⟨_, rfl, rfl⟩; rfl) | ((with_reducible refine loadAG ?_ ?_ HY.out ?_); exact ⟨_, rfl, rfl⟩; rfl))
 exact retHs rfl rfl R0.out rfl kr.out (by omega) HW.out
set_option maxHeartbeats 4000000 in
set_option maxRecDepth 100000 in
theorem val20F (x y : Ob) (b o c : Nat) (p q : Value) (w : World) (hx : Ad w x b o p) (hy : Ad w y b (o + 7) q) (hc : 2 ≤ c) (hr : Hid ([x, y].all Ob.isStrB = true)) (hok : Hid (Sy.symOk y.f5 x.f5 = false)) : Calls Tryz.prog 100 #[.slice (some ⟨b, o, none⟩) 2 c] w (RetH w .nil) := by
 have HX := qh9 hx
 have HY := qh9 hy
 clear hx hy
 have T := Bx1.new w #[.int .i64 0, .string ⟨#[]⟩, .string ⟨#[]⟩, .string ⟨#[]⟩, .string ⟨#[]⟩, .string ⟨#[]⟩, .slice none 0 0]
 go_enter Tryz.func100, Tryz.ntmps100
 go_upto_region 1 with fail
 generalize w.alloc (.cells #[.int .i64 0, .string ⟨#[]⟩, .string ⟨#[]⟩, .string ⟨#[]⟩, .string ⟨#[]⟩, .string ⟨#[]⟩, .slice none 0 0] 27) = W at T ⊢
 have R0 := qh9 T.b0
 have HW := qh9 T.bel
 clear T  
 replace HX := qh9 (HX.out.below HW.out)
 replace HY := qh9 (HY.out.below HW.out)
 have HA : Hid (∀ X, Below W.heap.size W X → Ar X [x, y] (.slice (some ⟨b, o, none⟩) 2 c)) := qh9 fun X h => ar2 (HX.out.below h) (HY.out.below h) hc
 have h1 : Below W.heap.size W W.drew := (Below.refl _ _).drew
 have h2 : Below W.heap.size W (W.alloc (.cells #[.string ⟨#[]⟩, .string ⟨#[]⟩] 24)).drew := (Below.alloc (Below.refl _ _) (Nat.le_refl _) _).drew
 obtain ⟨_, _, _, _, _, mx5, _⟩ := HX.out.k
 obtain ⟨_, _, _, _, _, my5, _⟩ := HY.out.k
 obtain ⟨_, _, _, _, _, dx5, _⟩ := (HX.out.below h1).k
 obtain ⟨_, _, _, _, _, dy5, _⟩ := (HY.out.below h1).k
 obtain ⟨_, _, _, _, _, ex5, _⟩ := (HX.out.below h2).k
 obtain ⟨_, _, _, _, _, ey5, _⟩ := (HY.out.below h2).k
 simp only [Nat.add_assoc, Nat.reduceAdd] at my5 dy5 ey5
 clear h1 h2
 generalize x.f5 = s2 at *
 generalize y.f5 = s1 at *
 go_wp2_with fail
 apply mergeV
 case h =>
  intro hG
  go_region_with (fail)
  all_goals exact hG
 clear mx5 my5 dx5 dy5 ex5 ey5
 have hb : Below W.heap.size W (W.alloc (.cells #[.string s1, .string s2] 24)).drew := (Below.alloc (Below.refl _ _) (Nat.le_refl _) _).drew
 have hS : Sy.SB (W.alloc (.cells #[.string s1, .string s2] 24)).drew W.heap.size (.string s1) (.string s2) := Sy.SB.new W _ _
 have CS : Hid (∀ X, Below W.heap.size W X → Calls Tryz.prog 101 #[.slice (some ⟨b, o, none⟩) 2 c] X (RetB X true)) := fun X h => by
  have h3 := areStringsP [x, y] _ X (HA.out X h) (Nat.le_of_ble_eq_true rfl)
  rw [hr.out] at h3
  exact h3
 generalize (W.alloc (.cells #[.string s1, .string s2] 24)).drew = W2 at hb hS ⊢
 have HS := qh9 hS
 clear hS
 have HB2 := qh9 hb
 replace R0 := qh9 (R0.out.keep hb)
 replace HW := qc9 HW hb
 replace HX := qh9 (HX.out.below hb)
 replace HY := qh9 (HY.out.below hb)
 clear hb HA
 go_wp2_with (first | ((with_reducible refine loadA ?_ ?_ HX.out ?_); exact ⟨_, rfl, rfl⟩; rfl) | ((with_reducible refine loadAG ?_ ?_ HX.out ?_); exact ⟨_, rfl, rfl⟩; rfl) | ((with_reducible refine loadA ?_ ?_ HY.out ?_); exact ⟨_, rfl, rfl⟩; rfl) | ((with_reducible refine loadAG ?_ ?_ HY.out ?_); exact ⟨_, rfl, rfl⟩; rfl))
 with_reducible refine (CS.out _ HB2.out).mono ?_
 rintro e w1 ⟨rfl, hb⟩
 replace R0 := qh9 (R0.out.keep hb)
 replace HW := qc9 HW hb
 replace HX := qh9 (HX.out.below hb)
 replace HY := qh9 (HY.out.below hb)
 replace HS := qh9 (HS.out.keep hb)
 clear hb
 clear CS
 have l0 := HS.out.c0
 have l1 := HS.out.c1
 have CV : Hid (∀ X, Calls Tryz.prog 143 #[.agg #[.string s1, .string s2]] X (RetY X (.bool false))) := fun X => by
  have h3 := Sy.validSY s1 s2 X
  rw [hok.out] at h3
  exact h3
 clear hr hok
 go_wp2_with (first | ((with_reducible refine loadA ?_ ?_ HX.out ?_); exact ⟨_, rfl, rfl⟩; rfl) | ((with_reducible refine loadAG ?_ ?_ HX.out ?_); exact ⟨_, rfl, rfl⟩; rfl) | ((with_reducible refine loadA ?_ ?_ HY.out ?_); exact ⟨_, rfl, rfl⟩; rfl) | ((with_reducible refine loadAG ?_ ?_ HY.out ?_); exact ⟨_, rfl, rfl⟩; rfl))
 with_reducible refine (CV.out _).mono ?_
 rintro e w2 ⟨rfl, hb⟩
 replace R0 := qh9 (R0.out.keep hb)
 replace HW := qc9 HW hb
 replace HX := qh9 (HX.out.below hb)
 replace HY := qh9 (HY.out.below hb)
 replace HS := qh9 (HS.out.keep hb)
 clear hb CV l0 l1
 go_wp2_with (first | ((with_reducible refine loadA ?_ ?_ HX.out ?_); exact ⟨_, rfl, rfl⟩; rfl) | ((with_reducible refine loadAG ?_ ?_ HX.out ?_); exact ⟨_, rfl, rfl⟩; rfl) | ((with_reducible refine loadA ?_ ?_ HY.out ?_); exact ⟨_, rfl, rfl⟩; rfl) | ((with_reducible refine loadAG ?_ ?_ HY.out ?_); exact ⟨_, rfl, rfl⟩; rfl))
 with_reducible refine (nilH _).mono ?_
 rintro e w3 ⟨pr, rfl, kr, hb⟩
 replace R0 := qh9 (R0.out.keep hb)
 replace HW := qc9 HW hb
 replace HX := qh9 (HX.out.below hb)
 replace HY := qh9 (HY.out.below hb)
 clear hb
 replace kr := qh9 kr
 go_wp2_with (first | ((with_reducible refine storeB (w1 := w3) (g := w.heap.size) (b := .nil) (p := pr) (.tmp 2) (.tmp 21) ?_ ?_ ?_ ?_ kr.out R0.out ?_); rfl; rfl; rfl; rfl) | ((with_reducible refine loadA ?_ ?_ HX.out ?_); exact ⟨_, rfl, rfl⟩; rfl) | ((with_reducible refine loadAG ?_ ?_ HX.out ?_); exact ⟨_, rfl, rfl⟩; rfl) | ((with_reducible refine loadA ?_ ?_ HY.out ?_); exact ⟨_, rfl, rfl⟩; rfl) | ((with_reducible refine loadAG ?_ ?_ HY.out ?_); exact ⟨_, rfl, rfl⟩; rfl))
 exact retHs rfl rfl R0.out rfl kr.out (by omega) HW.out
set_option maxHeartbeats 4000000 in
set_option maxRecDepth 100000 in
theorem val20T (x y : Ob) (b o c : Nat) (p q : Value) (w : World) (hx : Ad w x b o p) (hy : Ad w y b (o + 7) q) (hc : 2 ≤ c) (hr : Hid ([x, y].all Ob.isStrB = true)) (hok : Hid (Sy.symOk y.f5 x.f5 = true)) : Calls Tryz.prog 100 #[.slice (some ⟨b, o, none⟩) 2 c] w (RetH w (.sym (LA y.f5) (LA x.f5))) := by
 have HX := qh9 hx
 have HY := qh9 hy
 clear hx hy
 have T := Bx1.new w #[.int .i64 0, .string ⟨#[]⟩, .string ⟨#[]⟩, .string ⟨#[]⟩, .string ⟨#[]⟩, .string ⟨#[]⟩, .slice none 0 0]
 go_enter Tryz.func100, Tryz.ntmps100
 go_upto_region 1 with fail
 generalize w.alloc (.cells #[.int .i64 0, .string ⟨#[]⟩, .string ⟨#[]⟩, .string ⟨#[]⟩, .string ⟨#[]⟩, .string ⟨#[]⟩, .slice none 0 0] 27) = W at T ⊢
 have R0 := qh9 T.b0
 have HW := qh9 T.bel
 clear T  
 replace HX := qh9 (HX.out.below HW.out)
 replace HY := qh9 (HY.out.below HW.out)
 have HA : Hid (∀ X, Below W.heap.size W X → Ar X [x, y] (.slice (some ⟨b, o, none⟩) 2 c)) := qh9 fun X h => ar2 (HX.out.below h) (HY.out.below h) hc
 have h1 : Below W.heap.size W W.drew := (Below.refl _ _).drew
 have h2 : Below W.heap.size W (W.alloc (.cells #[.string ⟨#[]⟩, .string ⟨#[]⟩] 24)).drew := (Below.alloc (Below.refl _ _) (Nat.le_refl _) _).drew
 obtain ⟨_, _, _, _, _, mx5, _⟩ := HX.out.k
 obtain ⟨_, _, _, _, _, my5, _⟩ := HY.out.k
 obtain ⟨_, _, _, _, _, dx5, _⟩ := (HX.out.below h1).k
 obtain ⟨_, _, _, _, _, dy5, _⟩ := (HY.out.below h1).k
 obtain ⟨_, _, _, _, _, ex5, _⟩ := (HX.out.below h2).k
 obtain ⟨_, _, _, _, _, ey5, _⟩ := (HY.out.below h2).k
 simp only [Nat.add_assoc, Nat.reduceAdd] at my5 dy5 ey5
 clear h1 h2
 generalize x.f5 = s2 at *
 generalize y.f5 = s1 at *
 go_wp2_with fail
 apply mergeV
 case h =>
  intro hG
  go_region_with (fail)
  all_goals exact hG
 clear mx5 my5 dx5 dy5 ex5 ey5
 have hb : Below W.heap.size W (W.alloc (.cells #[.string s1, .string s2] 24)).drew := (Below.alloc (Below.refl _ _) (Nat.le_refl _) _).drew
 have hS : Sy.SB (W.alloc (.cells #[.string s1, .string s2] 24)).drew W.heap.size (.string s1) (.string s2) := Sy.SB.new W _ _
 have CS : Hid (∀ X, Below W.heap.size W X → Calls Tryz.prog 101 #[.slice (some ⟨b, o, none⟩) 2 c] X (RetB X true)) := fun X h => by
  have h3 := areStringsP [x, y] _ X (HA.out X h) (Nat.le_of_ble_eq_true rfl)
  rw [hr.out] at h3
  exact h3
 generalize (W.alloc (.cells #[.string s1, .string s2] 24)).drew = W2 at hb hS ⊢
 have HS := qh9 hS
 clear hS
 have HB2 := qh9 hb
 replace R0 := qh9 (R0.out.keep hb)
 replace HW := qc9 HW hb
 replace HX := qh9 (HX.out.below hb)
 replace HY := qh9 (HY.out.below hb)
 clear hb HA
 go_wp2_with (first | ((with_reducible refine loadA ?_ ?_ HX.out ?_); exact ⟨_, rfl, rfl⟩; rfl) | ((with_reducible refine loadAG ?_ ?_ HX.out ?_); exact ⟨_, rfl, rfl⟩; rfl) | ((with_reducible refine loadA ?_ ?_ HY.out ?_); exact ⟨_, rfl, rfl⟩; rfl) | ((with_reducible refine loadAG ?_ ?_ HY.out ?_); exact ⟨_, rfl, rfl⟩; rfl))
 with_reducible refine (CS.out _ HB2.out).mono ?_
 rintro e w1 ⟨rfl, hb⟩
 replace R0 := qh9 (R0.out.keep hb)
 replace HW := qc9 HW hb
 replace HX := qh9 (HX.out.below hb)
 replace HY := qh9 (HY.out.below hb)
 replace HS := qh9 (HS.out.keep hb)
 clear hb
 clear CS
 have l0 := HS.out.c0
 have l1 := HS.out.c1
 have CV : Hid (∀ X, Calls Tryz.prog 143 #[.agg #[.string s1, .string s2]] X (RetY X (.bool true))) := fun X => by
  have h3 := Sy.validSY s1 s2 X
  rw [hok.out] at h3
  exact h3
 clear hr hok
 go_wp2_with (first | ((with_reducible refine loadA ?_ ?_ HX.out ?_); exact ⟨_, rfl, rfl⟩; rfl) | ((with_reducible refine loadAG ?_ ?_ HX.out ?_); exact ⟨_, rfl, rfl⟩; rfl) | ((with_reducible refine loadA ?_ ?_ HY.out ?_); exact ⟨_, rfl, rfl⟩; rfl) | ((with_reducible refine loadAG ?_ ?_ HY.out ?_); exact ⟨_, rfl, rfl⟩; rfl))
 with_reducible refine (CV.out _).mono ?_
 rintro e w2 ⟨rfl, hb⟩
 replace R0 := qh9 (R0.out.keep hb)
 replace HW := qc9 HW hb
 replace HX := qh9 (HX.out.below hb)
 replace HY := qh9 (HY.out.below hb)
 replace HS := qh9 (HS.out.keep hb)
 clear hb CV l0 l1
 have l0 := HS.out.c0
 have l1 := HS.out.c1
 go_wp2_with (first | ((with_reducible refine loadA ?_ ?_ HX.out ?_); exact ⟨_, rfl, rfl⟩; rfl) | ((with_reducible refine loadAG ?_ ?_ HX.out ?_); exact ⟨_, rfl, rfl⟩; rfl) | ((with_reducible refine loadA ?_ ?_ HY.out ?_); exact ⟨_, rfl, rfl⟩; rfl) | ((with_reducible refine loadAG ?_ ?_ HY.out ?_); exact ⟨_, rfl, rfl⟩; rfl))
 clear l0 l1 HS
 with_reducible refine (symbolH _ _ _).mono ?_
 rintro e w3 ⟨pr, rfl, kr, hb⟩
 replace R0 := qh9 (R0.out.keep hb)
 replace HW := qc9 HW hb
 replace HX := qh9 (HX.out.below hb)
 replace HY := qh9 (HY.out.below hb)
 clear hb
 replace kr := qh9 kr
 go_wp2_with (first | ((with_reducible refine storeB (w1 := w3) (g := w.heap.size) (b := .sym (LA s1) (LA s2)) (p := pr) (.tmp 2) (.tmp 23) ?_ ?_ ?_ ?_ kr.out R0.out ?_); rfl; rfl; rfl; rfl) | ((with_reducible refine loadA ?_ ?_ HX.out ?_); exact ⟨_, rfl, rfl⟩; rfl) | ((with_reducible refine loadAG ?_ ?_ HX.out ?_); exact ⟨_, rfl, rfl⟩; rfl) | ((with_reducible refine loadA ?_ ?_ HY.out ?_); exact ⟨_, rfl, rfl⟩; rfl) | ((with_reducible refine loadAG ?_ ?_ HY.out ?_); exact ⟨_, rfl, rfl⟩; rfl))
 exact retHs rfl rfl R0.out rfl kr.out (by omega) HW.out
theorem val20 (x y : Ob) (b o c : Nat) (p q : Value) (w : World) (hx : Ad w x b o p) (hy : Ad w y b (o + 7) q) (hc : 2 ≤ c) : Calls Tryz.prog 100 #[.slice (some ⟨b, o, none⟩) 2 c] w (RetH w (internV x y)) := by
 cases hr : [x, y].all Ob.isStrB with
 | false =>
  have e : internV x y = .nil := by
   cases x <;> cases y <;> first | rfl | (exfalso; revert hr; simp [Ob.isStrB])
  rw [e]
  exact val20N x y b o c p q w hx hy hc hr
 | true =>
  cases x with
  | str n =>
   cases y with
   | str m =>
    have e : internV (.str n) (.str m) = if Sy.symOk (BA m) (BA n) then .sym m n else .nil := rfl
    rw [e]
    cases hok : Sy.symOk (BA m) (BA n) with
    | false => exact val20F (.str n) (.str m) b o c p q w hx hy hc hr hok
    | true =>
     have h := val20T (.str n) (.str m) b o c p q w hx hy hc hr hok
     have e2 : (Ob.sym (LA (Ob.str m).f5) (LA (Ob.str n).f5)) = .sym m n := by show Ob.sym (LA (BA m)) (LA (BA n)) = _; rw [LA_BA, LA_BA]
     rw [e2] at h
     exact h
   | _ => exfalso; revert hr; simp [Ob.isStrB]
  | _ => exfalso; revert hr; simp [Ob.isStrB]

section
variable {Q : Exit → Act → World → Prop} {ops : Array Oper} {K : Act → World → Prop} {a : Act} {w : World} {i : Nat} {o : Oper}
end



set_option maxHeartbeats 4000000 in
set_option maxRecDepth 100000 in
theorem isNilR (o : Ob) (p : Value) (w : World) (S : Nat → Prop) (hS : In S w) (h : Pair w S o p) : Calls Tryz.prog 29 #[vO o p] w (RetB w (decide (o = .nil))) := by
 obtain ⟨x0, x1, x2, x3, x4, x5, e⟩ := cells7 o p
 have ev : vO o p = .agg #[x0, x1, x2, x3, x4, x5, p] := by unfold vO; rw [e]
 have CE : Hid (∀ X', Below w.heap.size w X' → Calls Tryz.prog 12 #[.agg #[x0, x1, x2, x3, x4, x5, p], .agg #[.int .i64 2, .string ⟨#[]⟩, .string ⟨#[]⟩, .string (BA lispB), .string (BA [110, 105, 108]), .string ⟨#[]⟩, .slice none 0 0]] X' (RetB X' (decide (o = .nil)))) := fun X' hb => by
  rw [← ev]
  exact equalO o .nil p (.slice none 0 0) X' S (hS.later hb.size) (h.below hS hb) rfl
 have CN : Hid (∀ X', Calls Tryz.prog 14 #[] X' fun e w' => e = .returned (.agg #[.int .i64 2, .string ⟨#[]⟩, .string ⟨#[]⟩, .string (BA lispB), .string (BA [110, 105, 108]), .string ⟨#[]⟩, .slice none 0 0]) ∧ Below X'.heap.size X' w') := fun X' => (nilO X' NoB).mono fun _ _ ⟨p, h1, h2, h3⟩ => by
  have e : p = .slice none 0 0 := h2
  subst e
  exact ⟨h1, h3⟩
 rw [ev]
 generalize decide (o = Ob.nil) = b at CE ⊢
 clear ev e h
 have hb0 : Below w.heap.size w (w.alloc (.cells #[x0, x1, x2, x3, x4, x5, p] 27)) := Below.alloc (Below.refl _ _) (Nat.le_refl _) _
 have hg0 := heap_alloc_new w (.cells #[x0, x1, x2, x3, x4, x5, p] 27)
 go_enter Tryz.func29, Tryz.ntmps29
 go_wp2_with fail
 generalize w.alloc (.cells #[x0, x1, x2, x3, x4, x5, p] 27) = W at hb0 hg0 ⊢
 have FC : Hid (∀ X', Below W.heap.size W X' → X'.cell? ⟨w.heap.size, 0, none⟩ = some x0 ∧ X'.cell? ⟨w.heap.size, 1, none⟩ = some x1 ∧ X'.cell? ⟨w.heap.size, 2, none⟩ = some x2 ∧ X'.cell? ⟨w.heap.size, 3, none⟩ = some x3 ∧ X'.cell? ⟨w.heap.size, 4, none⟩ = some x4 ∧ X'.cell? ⟨w.heap.size, 5, none⟩ = some x5 ∧ X'.cell? ⟨w.heap.size, 6, none⟩ = some p) := fun X' h => (row7 ((h.block _ (lt_of_heap hg0)).trans hg0)).1
 have HB : Hid (∀ X', Below W.heap.size W X' → Below w.heap.size w X') := fun X' h => hb0.trans (h.mono hb0.size)
 obtain ⟨m0, m1, m2, m3, m4, m5, m6⟩ := FC.out W (Below.refl _ _)
 have hB0 : Below W.heap.size W W.drew := (Below.refl _ _).drew
 clear hb0 hg0
 go_region_held3 (fun X' => X'.cell? ⟨w.heap.size, 0, none⟩ = some x0 ∧ X'.cell? ⟨w.heap.size, 1, none⟩ = some x1 ∧ X'.cell? ⟨w.heap.size, 2, none⟩ = some x2 ∧ X'.cell? ⟨w.heap.size, 3, none⟩ = some x3 ∧ X'.cell? ⟨w.heap.size, 4, none⟩ = some x4 ∧ X'.cell? ⟨w.heap.size, 5, none⟩ = some x5 ∧ X'.cell? ⟨w.heap.size, 6, none⟩ = some p) (first | exact FC.out _ ‹Below W.heap.size W _› | go_keep)
  (first
    | (go_at_call 14; refine (CN.out _).mono ?_; rintro e u1 ⟨rfl, hb1⟩; have hB1 := chain2 ‹Below W.heap.size W _› hb1 (Nat.le_refl _); clear hb1)
    | (go_at_call 12; refine (CE.out _ (HB.out _ ‹Below W.heap.size W _›)).mono ?_; rintro e u2 ⟨rfl, hb2⟩; have hB2 := chain2 ‹Below W.heap.size W _› hb2 (Nat.le_refl _); clear hb2))
 all_goals go_wp2
 all_goals go_ret
 all_goals exact ⟨rfl, HB.out _ ‹Below W.heap.size W _›⟩

namespace Sy
theorem SyV.take {w : World} {q : List Sy} {A : Option Addr} {c i : Nat} (h : SyV w q (.slice A q.length c)) (hi : i ≤ q.length) : SyV w (q.take i) (.slice A i c) := by
 obtain ⟨A', c', e, h2, h3, h4⟩ := h
 injection e with e1 e2 e3
 subst e1
 subst e3
 have hl : (q.take i).length = i := by rw [List.length_take]; omega
 refine ⟨A, c, by rw [hl], by omega, h3, fun h0 => ?_⟩
 obtain ⟨b, o, h5, h6, h7⟩ := h4 (by omega)
 refine ⟨b, o, h5, h6, fun k hk => ?_⟩
 have hk' : k < q.length := by omega
 have := h7 k hk'
 rw [List.getElem_take]
 exact this
end Sy
namespace Sy
theorem info_ofY {P : Program} {t : TypeId} {z : Value} {a b : Nat} (h : (P.info? t).map (fun i => (i.zero, i.size, i.bytes)) = some (some z, a, b)) : ∃ i, P.info? t = some i ∧ i.zero = some z ∧ i.size = a ∧ i.bytes = b := by
 generalize P.info? t = x at h ⊢
 cases x with
 | none => cases h
 | some j =>
  simp only [Option.map_some, Option.some.injEq, Prod.mk.injEq] at h
  exact ⟨j, rfl, h.1, h.2.1, h.2.2⟩
theorem infoS : ∃ i, Tryz.prog.info? 24 = some i ∧ i.zero = some (.agg #[.string ⟨#[]⟩, .string ⟨#[]⟩]) ∧ i.size = 2 ∧ i.bytes = 32 := info_ofY (P := Tryz.prog) (t := 24) (z := .agg #[.string ⟨#[]⟩, .string ⟨#[]⟩]) (a := 2) (b := 32) (by kernel_rfl)
theorem add_midY (b o j : Nat) : (⟨b, o, none⟩ : Addr).add j = ⟨b, o + j, none⟩ := by unfold Addr.add; split <;> simp_all
theorem PgV.cells {w : World} {l : List Pg} {A : Option Addr} {c : Nat} (h : PgV w l (.slice A l.length c)) : ∃ cs : List Value, cs.length = l.length * 2 ∧ (0 < l.length → ∃ ad, A = some ad ∧ ad.block < w.heap.size ∧ ∀ j v, cs[j]? = some v → w.cell? (Addr.add ad j) = some v) ∧ (∀ v ∈ cs, v.oneCell' = true) ∧
 (∀ i (hi : i < l.length), cs[i * 2]? = some (.string l[i].1) ∧ ∃ u, cs[i * 2 + 1]? = some u ∧ SyV w l[i].2 u) := by
 obtain ⟨A', c', e, h2, h3, h4⟩ := h
 injection e with e1 e2 e3
 subst e1
 by_cases h0 : 0 < l.length
 · obtain ⟨b, o, rfl, hb, hc⟩ := h4 h0
   have hcell : ∀ j, j < l.length * 2 → ∃ v, w.cell? ⟨b, o + j, none⟩ = some v ∧ v.oneCell' = true := fun j hj => by
    obtain ⟨k1, u, k2, k3⟩ := hc (j / 2) (by omega)
    rcases Nat.mod_two_eq_zero_or_one j with hm | hm
    · rw [show o + j / 2 * 2 = o + j from by omega] at k1
      exact ⟨_, k1, rfl⟩
    · rw [show o + j / 2 * 2 + 1 = o + j from by omega] at k2
      obtain ⟨_, _, rfl, _⟩ := k3
      exact ⟨_, k2, rfl⟩
   refine ⟨(List.range (l.length * 2)).map fun j => (w.cell? ⟨b, o + j, none⟩).getD undef, by simp, fun _ => ⟨⟨b, o, none⟩, rfl, hb, fun j v hj => ?_⟩, fun v hv => ?_, fun i hi => ?_⟩
   · rw [List.getElem?_map] at hj
     have hjl : j < l.length * 2 := by
      rcases Nat.lt_or_ge j (l.length * 2) with h | h
      · exact h
      · rw [List.getElem?_eq_none (by simpa using h)] at hj; cases hj
     rw [List.getElem?_range hjl] at hj
     obtain ⟨x, hx, _⟩ := hcell j hjl
     simp only [Option.map_some, hx, Option.getD_some, Option.some.injEq] at hj
     subst hj
     rw [add_midY]
     exact hx
   · obtain ⟨j, hj, rfl⟩ := List.mem_map.1 hv
     obtain ⟨x, hx, h1⟩ := hcell j (List.mem_range.1 hj)
     rw [hx]
     exact h1
   · obtain ⟨k1, u, k2, k3⟩ := hc i hi
     refine ⟨?_, u, ?_, k3⟩
     · rw [List.getElem?_map, List.getElem?_range (by omega)]
       simp only [Option.map_some, k1, Option.getD_some]
     · rw [List.getElem?_map, List.getElem?_range (by omega)]
       simp only [Option.map_some]
       rw [show o + (i * 2 + 1) = o + i * 2 + 1 from by omega, k2]
       rfl
 · exact ⟨[], by simp; omega, fun h => absurd h h0, fun v hv => by simp at hv, fun i hi => absurd hi (by omega)⟩
theorem SyV.cells {w : World} {l : List Sy} {A : Option Addr} {c : Nat} (h : SyV w l (.slice A l.length c)) : ∃ cs : List Value, cs.length = l.length * 2 ∧ (0 < l.length → ∃ ad, A = some ad ∧ ad.block < w.heap.size ∧ ∀ j v, cs[j]? = some v → w.cell? (Addr.add ad j) = some v) ∧ (∀ v ∈ cs, v.oneCell' = true) ∧
 (∀ i (hi : i < l.length), cs[i * 2]? = some (.string l[i].1) ∧ cs[i * 2 + 1]? = some (.string l[i].2)) := by
 obtain ⟨A', c', e, h2, h3, h4⟩ := h
 injection e with e1 e2 e3
 subst e1
 by_cases h0 : 0 < l.length
 · obtain ⟨b, o, rfl, hb, hc⟩ := h4 h0
   have hcell : ∀ j, j < l.length * 2 → ∃ v, w.cell? ⟨b, o + j, none⟩ = some v ∧ v.oneCell' = true := fun j hj => by
    obtain ⟨k1, k2⟩ := hc (j / 2) (by omega)
    rcases Nat.mod_two_eq_zero_or_one j with hm | hm
    · rw [show o + j / 2 * 2 = o + j from by omega] at k1
      exact ⟨_, k1, rfl⟩
    · rw [show o + j / 2 * 2 + 1 = o + j from by omega] at k2
      exact ⟨_, k2, rfl⟩
   refine ⟨(List.range (l.length * 2)).map fun j => (w.cell? ⟨b, o + j, none⟩).getD undef, by simp, fun _ => ⟨⟨b, o, none⟩, rfl, hb, fun j v hj => ?_⟩, fun v hv => ?_, fun i hi => ?_⟩
   · rw [List.getElem?_map] at hj
     have hjl : j < l.length * 2 := by
      rcases Nat.lt_or_ge j (l.length * 2) with h | h
      · exact h
      · rw [List.getElem?_eq_none (by simpa using h)] at hj; cases hj
     rw [List.getElem?_range hjl] at hj
     obtain ⟨x, hx, _⟩ := hcell j hjl
     simp only [Option.map_some, hx, Option.getD_some, Option.some.injEq] at hj
     subst hj
     rw [add_midY]
     exact hx
   · obtain ⟨j, hj, rfl⟩ := List.mem_map.1 hv
     obtain ⟨x, hx, h1⟩ := hcell j (List.mem_range.1 hj)
     rw [hx]
     exact h1
   · obtain ⟨k1, k2⟩ := hc i hi
     refine ⟨?_, ?_⟩
     · rw [List.getElem?_map, List.getElem?_range (by omega)]
       simp only [Option.map_some, k1, Option.getD_some]
     · rw [List.getElem?_map, List.getElem?_range (by omega)]
       simp only [Option.map_some]
       rw [show o + (i * 2 + 1) = o + i * 2 + 1 from by omega, k2]
       rfl
 · exact ⟨[], by simp; omega, fun h => absurd h h0, fun v hv => by simp at hv, fun i hi => absurd hi (by omega)⟩
end Sy
set_option maxHeartbeats 8000000
set_option maxRecDepth 100000

def flN : Nat → List Value
 | 0 => []
 | i + 1 => flN i ++ [.string (BA lispB), .string (nmS i)]
theorem flN_length : ∀ i, (flN i).length = i * 2
 | 0 => rfl
 | i + 1 => by rw [flN, List.length_append, flN_length i]; simp; omega
theorem flN_get : ∀ (i j : Nat), j < i → (flN i)[j * 2]? = some (.string (BA lispB)) ∧ (flN i)[j * 2 + 1]? = some (.string (nmS j))
 | 0, j, h => absurd h (by omega)
 | i + 1, j, h => by
  have hl := flN_length i
  by_cases hj : j < i
  · obtain ⟨h1, h2⟩ := flN_get i j hj
    rw [flN, List.getElem?_append_left (by omega), List.getElem?_append_left (by omega)]
    exact ⟨h1, h2⟩
  · have e : j = i := by omega
    subst e
    rw [flN, List.getElem?_append_right (by omega), List.getElem?_append_right (by omega), hl]
    refine ⟨?_, ?_⟩
    · rw [show j * 2 - j * 2 = 0 from by omega]; rfl
    · rw [show j * 2 + 1 - j * 2 = 1 from by omega]; rfl
def NmAt (w : World) (g : Nat) : Prop := g < w.heap.size ∧ ∀ i, i < 25 → w.cell? ⟨g, i * 2, none⟩ = some (.string (BA lispB)) ∧ w.cell? ⟨g, i * 2 + 1, none⟩ = some (.string (nmS i))
theorem NmAt.keep {w w' : World} {g : Nat} (h : NmAt w g) (hb : Below w.heap.size w w') : NmAt w' g :=
 ⟨Nat.lt_of_lt_of_le h.1 hb.size, fun i hi => ⟨(hb.cell (p := ⟨g, i * 2, none⟩) h.1).trans (h.2 i hi).1, (hb.cell (p := ⟨g, i * 2 + 1, none⟩) h.1).trans (h.2 i hi).2⟩⟩
def RetNm (w : World) (e : Ending) (w' : World) : Prop := ∃ g c, e = .returned (.slice (some ⟨g, 0, none⟩) 25 c) ∧ 25 ≤ c ∧ NmAt w' g ∧ Below w.heap.size w w'
structure NmW (W wr : World) (i : Nat) (v : Value) : Prop where
 own : wr.ownsRow W.heap.size 24 2 v i (flN i)
 bel : Below W.heap.size W wr
theorem NmW.start (W : World) : NmW W W 0 (.slice none 0 0) := ⟨⟨rfl, .inl ⟨rfl, rfl⟩⟩, Below.refl _ _⟩
theorem NmW.own3 {W wo w3 : World} {i : Nat} {v : Value} (h : NmW W wo i v) (hb : Below wo.heap.size wo w3) (x : Obj) : (w3.alloc x).ownsRow W.heap.size 24 2 v i (flN i) :=
 own_keep h.own fun g hg => by
  have := (own_lt h.own g hg).2
  rw [Below.heap_alloc _ _ _ (by have := hb.size; omega)]
  exact hb.block g this
theorem NmW.step {W wo w3 w4 : World} {i : Nat} {v v' : Value} (h : NmW W wo i v) (hb : Below wo.heap.size wo w3) (x : Obj)
 (h4 : w4.ownsRow W.heap.size 24 2 v' (i + 1) (flN i ++ [.string (BA lispB), .string (nmS i)])) (hg : (w3.alloc x).grownBy w4 v.ownBlock) : NmW W w4 (i + 1) v' := by
 have hown := own_lt h.own
 have hsW := h.bel.size
 have hs3 := hb.size
 have hb3 := h.bel.trans (hb.mono hsW)
 have hba := Below.alloc hb3 (by omega) x
 exact ⟨h4, hba.grown hg hba.size (fun k hk => by have := (hown k hk).1; omega)⟩
theorem NmW.done {w W wr : World} {v : Value} (h : NmW W wr 25 v) : ∃ g c, v = .slice (some ⟨g, 0, none⟩) 25 c ∧ 25 ≤ c ∧ NmAt wr g := by
 have ho := own_lt h.own
 rcases h.own.2 with ⟨_, h0⟩ | ⟨g, cap, cur, rfl, hb, hh, hn, _, hcs, hcur⟩
 · cases h0
 · refine ⟨g, cap, rfl, by omega, (ho g rfl).2, fun i hi => ?_⟩
   obtain ⟨h1, h2⟩ := flN_get 25 i hi
   rw [← hcur] at h1 h2
   have k1 : i * 2 < (25 * 2) := by omega
   have k2 : i * 2 + 1 < (25 * 2) := by omega
   rw [List.getElem?_take_of_lt k1] at h1
   rw [List.getElem?_take_of_lt k2] at h2
   rw [cell_of_row _ _ _ _ _ _ hh, cell_of_row _ _ _ _ _ _ hh]
   exact ⟨by simpa using h1, by simpa using h2⟩
theorem namesP (w : World) : Calls Tryz.prog 33 #[] w (RetNm w) := by
 obtain ⟨tv, htv⟩ : ∃ tv, tblV = tv := ⟨_, rfl⟩
 have CT : Hid (∀ W, Calls Tryz.prog 50 #[] W fun e w' => e = .returned tv ∧ Below W.heap.size W w') := fun W => by rw [← htv]; exact tableP W
 have HI : Hid (∀ i : Nat, i < 25 → ∀ W : World, (Instr.index 81 tv (.int .i64 (i : Int))).run Tryz.prog W = .ok (.agg #[.string (nmS i), .int .i64 (arI i), fV (vfI i), fV (gfI i)]) W) := fun i hi W => by rw [← htv]; exact tbl_row i hi W
 clear htv
 obtain ⟨i0, hi0, hz0, hz1, hz2⟩ := Sy.infoS
 have HI0 := qh9 hi0
 have HZ0 := qh9 hz0
 have HZ1 := qh9 hz1
 have HZ2 := qh9 hz2
 clear hi0 hz0 hz1 hz2
 go_enter Tryz.func33, Tryz.ntmps33
 go_wp2_with fail
 refine (CT.out _).mono ?_
 rintro e W ⟨rfl, hb⟩
 have HW := qh9 hb
 have h0 := qh9 (NmW.start W)
 clear hb CT
 go_wp2_with fail
 go_loopw [1, 5] (fun u v wr => ∃ (i : Nat) (sl : Value), sl = u ∧ i ≤ 25 ∧ v = .int .i64 (i : Int) ∧ Hid (NmW W wr i sl)) (fun _ v _ => 25 - (intOf v).toNat)
 case atStart => exact ⟨0, _, rfl, by omega, rfl, h0⟩
 case round =>
  clear h0
  obtain ⟨i, sl, rfl, hi, rfl, hE⟩ := hrel
  obtain ⟨wo, rfl⟩ : ∃ wo : World, wo = wr := ⟨_, rfl⟩
  by_cases hiL : i < 25
  · have hidx := HI.out i hiL
    have N0 := qh9 (Bk.new wo #[.string ⟨#[]⟩, .int .i64 0, .nilFunc, .nilFunc])
    have row1 := qh9 (row_one i)
    go_upto_region 5 with (first
     | ((with_reducible refine Bk.store (.tmp 3) (.tmp 7) ?_ ?_ wo.heap.size _ _ _ _ _ _ _ _ ?_ ?_ N0.out row1.out ?_); rfl; rfl; rfl; rfl))
    have hbx : Below wo.heap.size wo (World.setRow (wo.alloc (.cells #[.string ⟨#[]⟩, .int .i64 0, .nilFunc, .nilFunc] 66)) wo.heap.size #[.string (nmS i), .int .i64 (arI i), fV (vfI i), fV (gfI i)]) := below_setRowO (Below.alloc (Below.refl _ _) (Nat.le_refl _) _) (Nat.le_refl _) _
    have hbk : Bk (World.setRow (wo.alloc (.cells #[.string ⟨#[]⟩, .int .i64 0, .nilFunc, .nilFunc] 66)) wo.heap.size #[.string (nmS i), .int .i64 (arI i), fV (vfI i), fV (gfI i)]) wo.heap.size #[.string (nmS i), .int .i64 (arI i), fV (vfI i), fV (gfI i)] := N0.out.set _
    clear N0 hidx row1
    generalize World.setRow (wo.alloc (.cells #[.string ⟨#[]⟩, .int .i64 0, .nilFunc, .nilFunc] 66)) wo.heap.size #[.string (nmS i), .int .i64 (arI i), fV (vfI i), fV (gfI i)] = X at hbx hbk ⊢
    obtain ⟨z0, z1, z2, z3⟩ := Bk.c hbk
    clear hbk z1 z2 z3
    have HBX := qh9 hbx
    clear hbx
    go_wp2_with fail
    refine (lispP _ _).mono ?_
    rintro e w3 ⟨rfl, hb⟩
    have hb3 := chain2 HBX.out hb (Nat.le_refl _)
    clear z0 hb
    have own3 := qh9 (hE.out.own3 hb3 (.cells #[.string (BA lispB), .string (nmS i)] 24))
    have HSTEP : Hid (∀ v' w4, w4.ownsRow W.heap.size 24 2 v' (i + 1) (flN i ++ [.string (BA lispB), .string (nmS i)]) → (w3.alloc (.cells #[.string (BA lispB), .string (nmS i)] 24)).grownBy w4 sl.ownBlock → NmW W w4 (i + 1) v') := fun v' w4 h4 hg => hE.out.step hb3 _ h4 hg
    have HONE : Hid (∀ u ∈ [Value.string (BA lispB), .string (nmS i)], u.oneCell' = true) := fun u hu => by
     rcases List.mem_cons.1 hu with rfl | hu
     · rfl
     · rw [List.mem_singleton] at hu; subst hu; rfl
    have HNEWS : Hid (∀ j u, [Value.string (BA lispB), .string (nmS i)][j]? = some u → (w3.alloc (.cells #[.string (BA lispB), .string (nmS i)] 24)).cell? ((⟨w3.heap.size, 0, none⟩ : Addr).add j) = some u) := newsO (cs := #[.string (BA lispB), .string (nmS i)]) rfl
    have hs3 : W.heap.size ≤ (w3.alloc (.cells #[.string (BA lispB), .string (nmS i)] 24)).heap.size := by have h1 := hb3.size; have h2 := hE.out.bel.size; simp; omega
    clear hb3
    go_wp2_with (at_builtin; refine wpList_append_own_at _ rfl (.tmp 8) (.tmp 12) _ rfl W.heap.size 24 i0 _ 2 32 Tryz.underlying60 HI0.out HZ0.out HZ1.out HZ2.out rfl (by omega) sl i (flN i) rfl own3.out ⟨w3.heap.size, 0, none⟩ 1 1 [.string (BA lispB), .string (nmS i)] rfl rfl HNEWS.out HONE.out (by simp only [maxLen]; omega) (by omega) hs3 ?_; intro v4 w4 hown4 hg4 hnil4 hat4; have hst := qh9 (HSTEP.out v4 w4 hown4 hg4); clear hown4 hg4 hnil4 hat4)
    go_roundw
    case rel => exact ⟨i + 1, _, rfl, by omega, by go_num, hst⟩
    case measure => simp [intOf]; omega
  · have hiE : i = 25 := by omega
    subst hiE
    obtain ⟨g, c, rfl, hc, hn⟩ := NmW.done (w := w) hE.out
    have HN := qh9 hn
    have hbel := qh9 (chain2 HW.out hE.out.bel (Nat.le_refl _))
    clear hE hn
    go_wp2_with fail
    go_ret
    exact ⟨g, c, rfl, hc, HN.out, hbel.out⟩
theorem namesR (w : World) : Calls Tryz.prog 45 #[] w (RetNm w) := by
 obtain ⟨i0, hi0, hz0, hz1, hz2⟩ := Sy.infoS
 have HI0 := qh9 hi0
 have HZ0 := qh9 hz0
 have HZ1 := qh9 hz1
 have HZ2 := qh9 hz2
 clear hi0 hz0 hz1 hz2
 go_enter Tryz.func45, Tryz.ntmps45
 go_wp2_with fail
 refine (rowsR _).mono ?_
 rintro e W ⟨g, rfl, hg, hg0, hb⟩
 have HW := qh9 hb
 have HG := qh9 hg
 have h0 := qh9 (NmW.start W)
 clear hb hg hg0
 go_wp2_with fail
 go_loopw [2, 3] (fun u v wr => ∃ (i : Nat) (sl : Value), sl = u ∧ i ≤ 25 ∧ v = .int .i64 (i : Int) ∧ Hid (NmW W wr i sl)) (fun _ v _ => 25 - (intOf v).toNat)
 case atStart => exact ⟨0, _, rfl, by omega, rfl, h0⟩
 case round =>
  clear h0
  obtain ⟨i, sl, rfl, hi, rfl, hE⟩ := hrel
  obtain ⟨wo, rfl⟩ : ∃ wo : World, wo = wr := ⟨_, rfl⟩
  by_cases hiL : i < 25
  · obtain ⟨k0, _⟩ := (HG.out.keep hE.out.bel).c hiL
    rw [Nat.zero_add] at k0
    have hi1 : (0 : Int) ≤ (i : Int) := by omega
    have hi2 : (i : Int) < 25 := by omega
    go_wp2_with fail
    refine (lispO _ _).mono ?_
    rintro e w3 ⟨rfl, hb3⟩
    have own3 := qh9 (hE.out.own3 hb3 (.cells #[.string (BA lispB), .string (nmS i)] 24))
    have HSTEP : Hid (∀ v' w4, w4.ownsRow W.heap.size 24 2 v' (i + 1) (flN i ++ [.string (BA lispB), .string (nmS i)]) → (w3.alloc (.cells #[.string (BA lispB), .string (nmS i)] 24)).grownBy w4 sl.ownBlock → NmW W w4 (i + 1) v') := fun v' w4 h4 hg => hE.out.step hb3 _ h4 hg
    have HONE : Hid (∀ u ∈ [Value.string (BA lispB), .string (nmS i)], u.oneCell' = true) := fun u hu => by
     rcases List.mem_cons.1 hu with rfl | hu
     · rfl
     · rw [List.mem_singleton] at hu; subst hu; rfl
    have HNEWS : Hid (∀ j u, [Value.string (BA lispB), .string (nmS i)][j]? = some u → (w3.alloc (.cells #[.string (BA lispB), .string (nmS i)] 24)).cell? ((⟨w3.heap.size, 0, none⟩ : Addr).add j) = some u) := newsO (cs := #[.string (BA lispB), .string (nmS i)]) rfl
    have hs3 : W.heap.size ≤ (w3.alloc (.cells #[.string (BA lispB), .string (nmS i)] 24)).heap.size := by have h1 := hb3.size; have h2 := hE.out.bel.size; simp; omega
    clear hb3 k0
    go_wp2_with (at_builtin; refine wpList_append_own_at _ rfl (.tmp 11) (.tmp 18) _ rfl W.heap.size 24 i0 _ 2 32 Tryz.underlying60 HI0.out HZ0.out HZ1.out HZ2.out rfl (by omega) sl i (flN i) rfl own3.out ⟨w3.heap.size, 0, none⟩ 1 1 [.string (BA lispB), .string (nmS i)] rfl rfl HNEWS.out HONE.out (by simp only [maxLen]; omega) (by omega) hs3 ?_; intro v4 w4 hown4 hg4 hnil4 hat4; have hst := qh9 (HSTEP.out v4 w4 hown4 hg4); clear hown4 hg4 hnil4 hat4)
    go_roundw
    case rel => exact ⟨i + 1, _, rfl, by omega, by go_num, hst⟩
    case measure => simp [intOf]; omega
  · have hiE : i = 25 := by omega
    subst hiE
    obtain ⟨g, c, rfl, hc, hn⟩ := NmW.done (w := w) hE.out
    have HN := qh9 hn
    have hbel := qh9 (chain2 HW.out hE.out.bel (Nat.le_refl _))
    clear hE hn
    go_wp2_with fail
    go_ret
    exact ⟨g, c, rfl, hc, HN.out, hbel.out⟩
set_option maxHeartbeats 4000000 in
set_option maxRecDepth 100000 in
theorem pickO (n : Int) (w : World) (h64 : I64 n) : Calls Tryz.prog 25 #[.int .i64 n] w (RetY w (.agg #[.string (BA lispB), .string (nmS (n % 25).toNat)])) := by
 have h0 := Int.emod_nonneg n (show (25 : Int) ≠ 0 by decide)
 have h1 := Int.emod_lt_of_pos n (show (0 : Int) < 25 by decide)
 have CM := fun W => modO n 25 W h64.1 h64.2 (by decide) (by decide)
 obtain ⟨k, hk⟩ : ∃ k : Nat, n % 25 = k := ⟨(n % 25).toNat, by omega⟩
 rw [hk] at CM h1 ⊢
 have hk25 : k < 25 := by omega
 rw [show ((k : Int)).toNat = k from by omega]
 have CH := qh9 CM
 clear h0 h1 hk CM h64
 have S0 := Sy.SB.new w (.string ⟨#[]⟩) (.string ⟨#[]⟩)
 have B0 : Below w.heap.size w (w.alloc (.cells #[.string ⟨#[]⟩, .string ⟨#[]⟩] 24)) := Below.alloc (Below.refl _ _) (Nat.le_refl _) _
 go_enter Tryz.func25, Tryz.ntmps25
 go_wp2_with fail
 generalize w.alloc (.cells #[.string ⟨#[]⟩, .string ⟨#[]⟩] 24) = W at S0 B0 ⊢
 refine (namesR _).mono ?_
 rintro e w1 ⟨g, c, rfl, hc, hn, hb⟩
 have HS := qh9 (S0.keep hb)
 have HW := qh9 (chain2 B0 hb (Nat.le_refl _))
 clear S0 B0 hb
 obtain ⟨l0, l1⟩ := hn.2 k hk25
 have hk0 : (0 : Int) ≤ (k : Int) := by omega
 have hk1 : (k : Int) < 25 := by omega
 clear hn
 go_wp2_with fail
 refine (CH.out _).mono ?_
 rintro e w2 ⟨rfl, rfl⟩
 go_wp2_with ((with_reducible refine Sy.SB.store (.tmp 2) (.tmp 11) ?_ ?_ w.heap.size (.string (BA lispB)) (.string (nmS k)) _ _ ?_ ?_ HS.out ?_ ?_ ?_); rfl; rfl; rfl; rfl; rfl; rfl)
 refine bodyPost_ret (results_cell_row rfl _ _ w.heap.size _ _ _ _ rfl (Sy.SB.set HS.out (.string (BA lispB)) (.string (nmS k))) Tryz.underlying24 rfl (by kernel_rfl)) rfl ⟨rfl, ?_⟩
 exact below_setRowO HW.out (Nat.le_refl _) _
def Fine (o : Ob) : Prop := o.bd 90 ∧ o.nodes ≤ 1000
theorem fine_fix : ∀ {o : Ob}, Fine o → Bd 90 o.fix
 | .num q, h => h.1
 | .str _, _ => bd00.more (by decide)
 | .sym _ _, _ => bd00.more (by decide)
 | .cons _ _, _ => bd00.more (by decide)
theorem fine_str : ∀ {o : Ob}, Fine o → o.strV.length ≤ 2000
 | .num _, _ => Nat.zero_le _
 | .str s, h => Nat.le_trans (show s.length ≤ 200 from h.1) (by decide)
 | .sym _ _, _ => Nat.zero_le _
 | .cons _ _, _ => Nat.zero_le _
theorem Sml.fine {o : Ob} (h : Sml o) : Fine o := ⟨Ob.bd_more (by decide) h.1, Nat.le_trans h.2 (by decide)⟩
theorem Sml.ints {o : Ob} (h : Sml o) : IntO o := fun q e => by
 subst e
 have := (show Bd 10 q from h.1).1
 constructor <;> omega
theorem Fine.n3 {o : Ob} (h : Fine o) : o.nodes ≤ 3000 := Nat.le_trans h.2 (by decide)
theorem valAll : ∀ (i : Nat) (l : List Ob) (v : Value) (w : World), i < 25 → Ar w l v → l.length = arB.getD i 0 → (∀ o ∈ l, Fine o) → (i = 23 ∨ i = 24 → ∀ o ∈ l, IntO o) → Tab w → Calls Tryz.prog (vfI i) #[v] w (RetH w (primV i l))
 | 0, l, v, w, _, hv, hl, hF, hI, ht => by
  obtain ⟨x, y, z, rfl⟩ := pv3 hl
  obtain ⟨b, o, c, p, q, r, rfl, hc, hx, hy, hz⟩ := hv.three
  exact val0 x y z b o c p q r w hx hy hz hc
 | 1, l, v, w, _, hv, hl, hF, hI, ht => by
  obtain ⟨x, y, rfl⟩ := pv2 hl
  obtain ⟨b, o, c, p, q, rfl, hc, hx, hy⟩ := hv.two
  exact val1 x y b o c p q w hx hy hc (hF x (by simp)).1 (hF y (by simp)).1 (hF x (by simp)).n3
 | 2, l, v, w, _, hv, hl, hF, hI, ht => by
  obtain ⟨x, y, rfl⟩ := pv2 hl
  obtain ⟨b, o, c, p, q, rfl, hc, hx, hy⟩ := hv.two
  exact val2 x y b o c p q w hx hy hc
 | 3, l, v, w, _, hv, hl, hF, hI, ht => by
  obtain ⟨x, rfl⟩ := pv1 hl
  obtain ⟨b, o, c, p, rfl, hc, hx⟩ := hv.one
  exact val3 x b o c p w hx hc
 | 4, l, v, w, _, hv, hl, hF, hI, ht => by
  obtain ⟨x, rfl⟩ := pv1 hl
  obtain ⟨b, o, c, p, rfl, hc, hx⟩ := hv.one
  exact val4 x b o c p w hx hc
 | 5, l, v, w, _, hv, hl, hF, hI, ht => by
  obtain ⟨x, rfl⟩ := pv1 hl
  obtain ⟨b, o, c, p, rfl, hc, hx⟩ := hv.one
  exact val5 x b o c p w hx hc
 | 6, l, v, w, _, hv, hl, hF, hI, ht => by
  obtain ⟨x, rfl⟩ := pv1 hl
  obtain ⟨b, o, c, p, rfl, hc, hx⟩ := hv.one
  exact val6 x b o c p w hx hc
 | 7, l, v, w, _, hv, hl, hF, hI, ht => by
  obtain ⟨x, rfl⟩ := pv1 hl
  obtain ⟨b, o, c, p, rfl, hc, hx⟩ := hv.one
  exact val7 x b o c p w hx hc
 | 8, l, v, w, _, hv, hl, hF, hI, ht => by
  obtain ⟨x, rfl⟩ := pv1 hl
  obtain ⟨b, o, c, p, rfl, hc, hx⟩ := hv.one
  exact val8 x b o c p w hx hc
 | 9, l, v, w, _, hv, hl, hF, hI, ht => by
  obtain ⟨x, rfl⟩ := pv1 hl
  obtain ⟨b, o, c, p, rfl, hc, hx⟩ := hv.one
  exact val9 x b o c p w hx hc
 | 10, l, v, w, _, hv, hl, hF, hI, ht => by
  obtain ⟨x, y, rfl⟩ := pv2 hl
  obtain ⟨b, o, c, p, q, rfl, hc, hx, hy⟩ := hv.two
  exact val10 x y b o c p q w hx hy hc 90 (by decide) (fine_fix (hF x (by simp))) (fine_fix (hF y (by simp))) ht
 | 11, l, v, w, _, hv, hl, hF, hI, ht => by
  obtain ⟨x, y, rfl⟩ := pv2 hl
  obtain ⟨b, o, c, p, q, rfl, hc, hx, hy⟩ := hv.two
  exact val11 x y b o c p q w hx hy hc 90 (by decide) (fine_fix (hF x (by simp))) (fine_fix (hF y (by simp))) ht
 | 12, l, v, w, _, hv, hl, hF, hI, ht => by
  obtain ⟨x, rfl⟩ := pv1 hl
  obtain ⟨b, o, c, p, rfl, hc, hx⟩ := hv.one
  exact val12 x b o c p w hx hc 90 (by decide) (fine_fix (hF x (by simp))) ht
 | 13, l, v, w, _, hv, hl, hF, hI, ht => by
  obtain ⟨x, rfl⟩ := pv1 hl
  obtain ⟨b, o, c, p, rfl, hc, hx⟩ := hv.one
  exact val13 x b o c p w hx hc 90 (by decide) (fine_fix (hF x (by simp))) ht
 | 14, l, v, w, _, hv, hl, hF, hI, ht => by
  obtain ⟨x, y, rfl⟩ := pv2 hl
  obtain ⟨b, o, c, p, q, rfl, hc, hx, hy⟩ := hv.two
  exact val14 x y b o c p q w hx hy hc 90 (by decide) (fine_fix (hF x (by simp))) (fine_fix (hF y (by simp))) ht
 | 15, l, v, w, _, hv, hl, hF, hI, ht => by
  obtain ⟨x, rfl⟩ := pv1 hl
  obtain ⟨b, o, c, p, rfl, hc, hx⟩ := hv.one
  exact val15 x b o c p w hx hc 90 (by decide) (fine_fix (hF x (by simp)))
 | 16, l, v, w, _, hv, hl, hF, hI, ht => by
  obtain ⟨x, rfl⟩ := pv1 hl
  obtain ⟨b, o, c, p, rfl, hc, hx⟩ := hv.one
  exact val16 x b o c p w hx hc 90 (by decide) (fine_fix (hF x (by simp)))
 | 17, l, v, w, _, hv, hl, hF, hI, ht => by
  obtain ⟨x, rfl⟩ := pv1 hl
  obtain ⟨b, o, c, p, rfl, hc, hx⟩ := hv.one
  exact val17 x b o c p w hx hc 90 (by decide) (fine_fix (hF x (by simp)))
 | 18, l, v, w, _, hv, hl, hF, hI, ht => by
  obtain ⟨x, rfl⟩ := pv1 hl
  obtain ⟨b, o, c, p, rfl, hc, hx⟩ := hv.one
  exact val18 x b o c p w hx hc
 | 19, l, v, w, _, hv, hl, hF, hI, ht => by
  obtain ⟨x, rfl⟩ := pv1 hl
  obtain ⟨b, o, c, p, rfl, hc, hx⟩ := hv.one
  exact val19 x b o c p w hx hc
 | 20, l, v, w, _, hv, hl, hF, hI, ht => by
  obtain ⟨x, y, rfl⟩ := pv2 hl
  obtain ⟨b, o, c, p, q, rfl, hc, hx, hy⟩ := hv.two
  exact val20 x y b o c p q w hx hy hc
 | 21, l, v, w, _, hv, hl, hF, hI, ht => by
  obtain ⟨x, y, rfl⟩ := pv2 hl
  obtain ⟨b, o, c, p, q, rfl, hc, hx, hy⟩ := hv.two
  exact val21 x y b o c p q w hx hy hc (fine_str (hF x (by simp))) (fine_str (hF y (by simp)))
 | 22, l, v, w, _, hv, hl, hF, hI, ht => by
  obtain ⟨x, rfl⟩ := pv1 hl
  obtain ⟨b, o, c, p, rfl, hc, hx⟩ := hv.one
  exact val22 x b o c p w hx hc (fine_str (hF x (by simp))) ht
 | 23, l, v, w, _, hv, hl, hF, hI, ht => by
  obtain ⟨x, y, rfl⟩ := pv2 hl
  obtain ⟨b, o, c, p, q, rfl, hc, hx, hy⟩ := hv.two
  exact val23 x y b o c p q w hx hy hc (fine_str (hF x (by simp))) (hI (.inl rfl) y (by simp)) ht
 | 24, l, v, w, _, hv, hl, hF, hI, ht => by
  obtain ⟨x, rfl⟩ := pv1 hl
  obtain ⟨b, o, c, p, rfl, hc, hx⟩ := hv.one
  exact val24 x b o c p w hx hc (hI (.inr rfl) x (by simp))
 | k + 25, _, _, _, h, _, _, _, _, _ => absurd h (by omega)
theorem grdAll : ∀ (i : Nat) (l : List Ob) (v : Value) (w : World), i < 25 → Ar w l v → l.length = arB.getD i 0 → (∀ o ∈ l, Fine o) → (i = 23 ∨ i = 24 → ∀ o ∈ l, IntO o) → Tab w → Calls Tryz.prog (gfI i) #[v] w (RetB w (guardV i l))
 | 0, l, v, w, _, hv, hl, hF, hI, ht => by
  obtain ⟨x, y, z, rfl⟩ := pv3 hl
  exact anythingP v w
 | 1, l, v, w, _, hv, hl, hF, hI, ht => by
  obtain ⟨x, y, rfl⟩ := pv2 hl
  exact anythingP v w
 | 2, l, v, w, _, hv, hl, hF, hI, ht => by
  obtain ⟨x, y, rfl⟩ := pv2 hl
  exact anythingP v w
 | 3, l, v, w, _, hv, hl, hF, hI, ht => by
  obtain ⟨x, rfl⟩ := pv1 hl
  obtain ⟨b, o, c, p, rfl, hc, hx⟩ := hv.one
  exact isListP x b o c p w hx hc
 | 4, l, v, w, _, hv, hl, hF, hI, ht => by
  obtain ⟨x, rfl⟩ := pv1 hl
  obtain ⟨b, o, c, p, rfl, hc, hx⟩ := hv.one
  exact isListP x b o c p w hx hc
 | 5, l, v, w, _, hv, hl, hF, hI, ht => by
  obtain ⟨x, rfl⟩ := pv1 hl
  exact anythingP v w
 | 6, l, v, w, _, hv, hl, hF, hI, ht => by
  obtain ⟨x, rfl⟩ := pv1 hl
  exact anythingP v w
 | 7, l, v, w, _, hv, hl, hF, hI, ht => by
  obtain ⟨x, rfl⟩ := pv1 hl
  exact anythingP v w
 | 8, l, v, w, _, hv, hl, hF, hI, ht => by
  obtain ⟨x, rfl⟩ := pv1 hl
  exact anythingP v w
 | 9, l, v, w, _, hv, hl, hF, hI, ht => by
  obtain ⟨x, rfl⟩ := pv1 hl
  exact anythingP v w
 | 10, l, v, w, _, hv, hl, hF, hI, ht => by
  obtain ⟨x, y, rfl⟩ := pv2 hl
  have h := areNumbersP [x, y] _ w hv (Nat.le_of_ble_eq_true rfl)
  rw [show [x, y].all Ob.isNumB = (x.isNumB && y.isNumB) by simp] at h
  exact h
 | 11, l, v, w, _, hv, hl, hF, hI, ht => by
  obtain ⟨x, y, rfl⟩ := pv2 hl
  have h := areNumbersP [x, y] _ w hv (Nat.le_of_ble_eq_true rfl)
  rw [show [x, y].all Ob.isNumB = (x.isNumB && y.isNumB) by simp] at h
  exact h
 | 12, l, v, w, _, hv, hl, hF, hI, ht => by
  obtain ⟨x, rfl⟩ := pv1 hl
  have h := areNumbersP [x] _ w hv (Nat.le_of_ble_eq_true rfl)
  rw [show [x].all Ob.isNumB = x.isNumB by simp] at h
  exact h
 | 13, l, v, w, _, hv, hl, hF, hI, ht => by
  obtain ⟨x, rfl⟩ := pv1 hl
  obtain ⟨b, o, c, p, rfl, hc, hx⟩ := hv.one
  exact isDivisorP x b o c p w hx hc (hF x (by simp)).1 (hF x (by simp)).n3 ht
 | 14, l, v, w, _, hv, hl, hF, hI, ht => by
  obtain ⟨x, y, rfl⟩ := pv2 hl
  have h := areNumbersP [x, y] _ w hv (Nat.le_of_ble_eq_true rfl)
  rw [show [x, y].all Ob.isNumB = (x.isNumB && y.isNumB) by simp] at h
  exact h
 | 15, l, v, w, _, hv, hl, hF, hI, ht => by
  obtain ⟨x, rfl⟩ := pv1 hl
  have h := areNumbersP [x] _ w hv (Nat.le_of_ble_eq_true rfl)
  rw [show [x].all Ob.isNumB = x.isNumB by simp] at h
  exact h
 | 16, l, v, w, _, hv, hl, hF, hI, ht => by
  obtain ⟨x, rfl⟩ := pv1 hl
  have h := areNumbersP [x] _ w hv (Nat.le_of_ble_eq_true rfl)
  rw [show [x].all Ob.isNumB = x.isNumB by simp] at h
  exact h
 | 17, l, v, w, _, hv, hl, hF, hI, ht => by
  obtain ⟨x, rfl⟩ := pv1 hl
  have h := areNumbersP [x] _ w hv (Nat.le_of_ble_eq_true rfl)
  rw [show [x].all Ob.isNumB = x.isNumB by simp] at h
  exact h
 | 18, l, v, w, _, hv, hl, hF, hI, ht => by
  obtain ⟨x, rfl⟩ := pv1 hl
  have h := isSymbolP [x] _ w hv (Nat.le_of_ble_eq_true rfl)
  rw [show [x].all Ob.isSymB = x.isSymB by simp] at h
  exact h
 | 19, l, v, w, _, hv, hl, hF, hI, ht => by
  obtain ⟨x, rfl⟩ := pv1 hl
  have h := isSymbolP [x] _ w hv (Nat.le_of_ble_eq_true rfl)
  rw [show [x].all Ob.isSymB = x.isSymB by simp] at h
  exact h
 | 20, l, v, w, _, hv, hl, hF, hI, ht => by
  obtain ⟨x, y, rfl⟩ := pv2 hl
  have h := areStringsP [x, y] _ w hv (Nat.le_of_ble_eq_true rfl)
  rw [show [x, y].all Ob.isStrB = (x.isStrB && y.isStrB) by simp] at h
  exact h
 | 21, l, v, w, _, hv, hl, hF, hI, ht => by
  obtain ⟨x, y, rfl⟩ := pv2 hl
  have h := areStringsP [x, y] _ w hv (Nat.le_of_ble_eq_true rfl)
  rw [show [x, y].all Ob.isStrB = (x.isStrB && y.isStrB) by simp] at h
  exact h
 | 22, l, v, w, _, hv, hl, hF, hI, ht => by
  obtain ⟨x, rfl⟩ := pv1 hl
  have h := areStringsP [x] _ w hv (Nat.le_of_ble_eq_true rfl)
  rw [show [x].all Ob.isStrB = x.isStrB by simp] at h
  exact h
 | 23, l, v, w, _, hv, hl, hF, hI, ht => by
  obtain ⟨x, y, rfl⟩ := pv2 hl
  obtain ⟨b, o, c, p, q, rfl, hc, hx, hy⟩ := hv.two
  exact isIndexedP x y b o c p q w hx hy hc (fine_str (hF x (by simp))) (hI (.inl rfl) y (by simp))
 | 24, l, v, w, _, hv, hl, hF, hI, ht => by
  obtain ⟨x, rfl⟩ := pv1 hl
  obtain ⟨b, o, c, p, rfl, hc, hx⟩ := hv.one
  exact isByteP x b o c p w hx hc (hI (.inr rfl) x (by simp))
 | k + 25, _, _, _, h, _, _, _, _, _ => absurd h (by omega)
theorem applyPall (fp fn : ByteArray) (l : List Ob) (v : Value) (w : World) (hv : Ar w l v) (ok : Bool) (ht : Tab w) (hF : ∀ o ∈ l, Fine o) (hI : ∀ i, fndP fp fn = some i → i = 23 ∨ i = 24 → ∀ o ∈ l, IntO o)
 (HO : ∀ i, fndP fp fn = some i → l.length = arB.getD i 0 → ∀ W q, Hd W (primV i l) q → Tab W → Calls Tryz.prog 38 #[vO (primV i l) q] W (RetB W ok)) :
 Calls Tryz.prog 17 #[.agg #[.string fp, .string fn], v] w (RetE w (appV ok (fndP fp fn) l)) :=
 applyP fp fn l v w hv ok ht (fun i h hl W hb => valAll i l v W (fndP_spec h).2.1 (hv.below hb) hl hF (hI i h) (ht.below hb)) HO
theorem guardPall (fp fn : ByteArray) (l : List Ob) (v : Value) (w : World) (hv : Ar w l v) (ht : Tab w) (hF : ∀ o ∈ l, Fine o) (hI : ∀ i, fndP fp fn = some i → i = 23 ∨ i = 24 → ∀ o ∈ l, IntO o) :
 Calls Tryz.prog 32 #[.agg #[.string fp, .string fn], v] w (RetB w (grdV (fndP fp fn) l)) :=
 guardP fp fn l v w hv (fun i h hl W hb => grdAll i l v W (fndP_spec h).2.1 (hv.below hb) hl hF (hI i h) (ht.below hb))
theorem arity_cases : ∀ i, i < 25 → (arB.getD i 0 = 3 ∧ i = 0) ∨ arB.getD i 0 = 2 ∨ arB.getD i 0 = 1 := by decide
theorem fnd_at : ∀ (i : Nat), i < 25 → fndP (BA lispB) (nmS i) = some i
 | 0, _ => by kernel_rfl
 | 1, _ => by kernel_rfl
 | 2, _ => by kernel_rfl
 | 3, _ => by kernel_rfl
 | 4, _ => by kernel_rfl
 | 5, _ => by kernel_rfl
 | 6, _ => by kernel_rfl
 | 7, _ => by kernel_rfl
 | 8, _ => by kernel_rfl
 | 9, _ => by kernel_rfl
 | 10, _ => by kernel_rfl
 | 11, _ => by kernel_rfl
 | 12, _ => by kernel_rfl
 | 13, _ => by kernel_rfl
 | 14, _ => by kernel_rfl
 | 15, _ => by kernel_rfl
 | 16, _ => by kernel_rfl
 | 17, _ => by kernel_rfl
 | 18, _ => by kernel_rfl
 | 19, _ => by kernel_rfl
 | 20, _ => by kernel_rfl
 | 21, _ => by kernel_rfl
 | 22, _ => by kernel_rfl
 | 23, _ => by kernel_rfl
 | 24, _ => by kernel_rfl
 | k + 25, h => absurd h (by omega)
theorem plain_new (w : World) (cs : Array Value) (t : TypeId) : Plain (w.alloc (.cells cs t)) w.heap.size := ⟨cs, t, heap_alloc_new w _⟩
theorem ar_new1 {w : World} {x : Ob} {p : Value} (hx : Hd w x p) : Ar (w.alloc (.cells (cellsO x p).toArray 27)) [x] (.slice (some ⟨w.heap.size, 0, none⟩) 1 1) := by
 have hb : Below w.heap.size w (w.alloc (.cells (cellsO x p).toArray 27)) := Below.alloc (Below.refl _ _) (Nat.le_refl _) _
 refine ar1 (o := 0) ⟨⟨by show _ < _; simp, plain_new w _ _⟩, fun j u hj => ?_, hx.below hb⟩ (Nat.le_refl _)
 rw [Nat.zero_add, cell_of_row _ _ _ _ _ _ (heap_alloc_new w _)]
 simpa using hj
theorem ar_new2 {w : World} {x y : Ob} {p q : Value} (hx : Hd w x p) (hy : Hd w y q) : Ar (w.alloc (.cells (cellsO x p ++ cellsO y q).toArray 27)) [x, y] (.slice (some ⟨w.heap.size, 0, none⟩) 2 2) := by
 have hb : Below w.heap.size w (w.alloc (.cells (cellsO x p ++ cellsO y q).toArray 27)) := Below.alloc (Below.refl _ _) (Nat.le_refl _) _
 have hl : (cellsO x p).length = 7 := cellsO_length _ _
 refine ar2 (o := 0) ⟨⟨by show _ < _; simp, plain_new w _ _⟩, fun j u hj => ?_, hx.below hb⟩ ⟨⟨by show _ < _; simp, plain_new w _ _⟩, fun j u hj => ?_, hy.below hb⟩ (Nat.le_refl _)
 · have hj7 : j < 7 := by
    rcases Nat.lt_or_ge j 7 with h | h
    · exact h
    · rw [List.getElem?_eq_none (by omega)] at hj; cases hj
   rw [Nat.zero_add, cell_of_row _ _ _ _ _ _ (heap_alloc_new w _)]
   show (cellsO x p ++ cellsO y q).toArray[j]? = some u
   rw [List.getElem?_toArray, List.getElem?_append_left (by omega)]
   exact hj
 · rw [Nat.zero_add, cell_of_row _ _ _ _ _ _ (heap_alloc_new w _)]
   show (cellsO x p ++ cellsO y q).toArray[7 + j]? = some u
   rw [List.getElem?_toArray, List.getElem?_append_right (by omega), hl, show 7 + j - 7 = j from by omega]
   exact hj
theorem validGP (o : Ob) (q : Value) (w : World) (hg : Good o) (h : Hd w o q) : Calls Tryz.prog 38 #[vO o q] w (RetB w true) := by
 rcases hg with ⟨h1, h2⟩ | ⟨p, n, rfl, hs⟩
 · exact validP o q w (Has w) h1 h2 (In.has w) h
 · obtain rfl : q = .slice none 0 0 := h.flat rfl
   have hv := Sy.validOY (BA p) (BA n) w
   have hs' : (Sy.pkgOk (BA p) && Sy.nameOk (BA n)) = true := hs
   rw [hs'] at hv
   exact hv
set_option maxHeartbeats 4000000 in
set_option maxRecDepth 100000 in
theorem formedSymY (x y : List UInt8) (w : World) (hb : Sy.symOk (BA x) (BA y) = true) : Calls Tryz.prog 35 #[vO (.sym x y) (.slice none 0 0)] w (RetB w true) := by
 have hp : Hd w (.sym x y) (.slice none 0 0) := rfl
 have N : Hid (∀ X, Calls Tryz.prog 36 #[.agg #[.string (BA x), .string (BA y)]] X (RetB X true)) := fun X => by
  have h := Sy.namedY (BA x) (BA y) X
  rw [hb] at h
  exact h
 have hx0 : 1 ≤ (BA x).size := by
  unfold Sy.symOk Sy.pkgOk Sy.nameOk at hb
  simp only [Bool.and_eq_true, decide_eq_true_eq] at hb
  exact hb.1.1.1
 have hx3 : ¬ (BA x).toList = [] := by
  rw [BA_toList]
  rw [BA_size] at hx0
  intro e
  rw [e] at hx0
  simp at hx0
 have hx1 : ((BA x).toList == []) = false := by rw [beq_eq_false_iff_ne]; exact hx3
 have hx2 : (BA x).toList.isEmpty = false := by rw [List.isEmpty_eq_false_iff]; exact hx3
 clear hb hx0
 have ea : cellsO (.sym x y) (.slice none 0 0) = [.int .i64 2, .string ⟨#[]⟩, .string ⟨#[]⟩, .string (BA x), .string (BA y), .string ⟨#[]⟩, (.slice none 0 0)] := rfl
 have T := Bx1.new w #[.int .i64 2, .string ⟨#[]⟩, .string ⟨#[]⟩, .string (BA x), .string (BA y), .string ⟨#[]⟩, (.slice none 0 0)]
 rw [vO_cells ea]
 go_enter Tryz.func35, Tryz.ntmps35
 go_upto_region 1 with fail
 generalize w.alloc (.cells #[.int .i64 2, .string ⟨#[]⟩, .string ⟨#[]⟩, .string (BA x), .string (BA y), .string ⟨#[]⟩, (.slice none 0 0)] 27) = W at T ⊢
 have B0 : Hid (Bx W (w.heap.size) (cellsO (.sym x y) (.slice none 0 0)).toArray) := by rw [ea]; exact T.b0
 have K0 := qh9 (hp.below T.bel)
 have HW := qh9 T.bel
 try rw [← vO_cells ea]
 clear T ea hp
 obtain ⟨m0, m1, m2, m3, m4, m5, m6⟩ := Bx.c B0.out
 try unfold e0 at m1
 try unfold e0 at m2
 try unfold e0 at m3
 try unfold e0 at m4
 try unfold e0 at m5
 go_wp2_with (first | ((with_reducible refine loadB (.tmp 1) ?_ ?_ ?_ B0.out ?_); rfl; rfl; rfl) | ((with_reducible refine loadG (.tmp 1) ?_ ?_ ?_ B0.out ?_); rfl; rfl; rfl))
 with_reducible refine (N.out _).mono ?_
 rintro e w1 ⟨rfl, hb⟩
 replace B0 := qh9 (B0.out.keep hb)
 replace K0 := qh9 (K0.out.below hb)
 replace HW := qc9 HW hb
 clear hb
 obtain ⟨m0, m1, m2, m3, m4, m5, m6⟩ := Bx.c B0.out
 try unfold e0 at m1
 try unfold e0 at m2
 try unfold e0 at m3
 try unfold e0 at m4
 try unfold e0 at m5
 go_wp2_with (first | ((with_reducible refine loadB (.tmp 1) ?_ ?_ ?_ B0.out ?_); rfl; rfl; rfl) | ((with_reducible refine loadG (.tmp 1) ?_ ?_ ?_ B0.out ?_); rfl; rfl; rfl))
 go_ret
 exact ⟨rfl, HW.out⟩
set_option maxHeartbeats 4000000 in
set_option maxRecDepth 100000 in
theorem validSymR (x y : List UInt8) (w : World) (hb : Sy.symOk (BA x) (BA y) = true) : Calls Tryz.prog 11 #[vO (.sym x y) (.slice none 0 0)] w (RetB w true) := by
 have hp : Hd w (.sym x y) (.slice none 0 0) := rfl
 have HB := qh9 hb
 have hn0 : (Ob.sym x y).nodes ≤ 3000 := by show 1 ≤ 3000; decide
 clear hb
 have ea : cellsO (.sym x y) (.slice none 0 0) = [.int .i64 2, .string ⟨#[]⟩, .string ⟨#[]⟩, .string (BA x), .string (BA y), .string ⟨#[]⟩, (.slice none 0 0)] := rfl
 have T := Bx1.new w #[.int .i64 2, .string ⟨#[]⟩, .string ⟨#[]⟩, .string (BA x), .string (BA y), .string ⟨#[]⟩, (.slice none 0 0)]
 rw [vO_cells ea]
 go_enter Tryz.func11, Tryz.ntmps11
 go_wp2_with fail
 generalize w.alloc (.cells #[.int .i64 2, .string ⟨#[]⟩, .string ⟨#[]⟩, .string (BA x), .string (BA y), .string ⟨#[]⟩, (.slice none 0 0)] 27) = W at T ⊢
 have B0 : Hid (Bx W (w.heap.size) (cellsO (.sym x y) (.slice none 0 0)).toArray) := by rw [ea]; exact T.b0
 have K0 := qh9 (hp.below T.bel)
 have HW := qh9 T.bel
 try rw [← vO_cells ea]
 clear T ea hp
 with_reducible refine (nodesR (.sym x y) _ _ hn0 K0.out).mono ?_
 rintro e w1 ⟨rfl, hb⟩
 replace B0 := qh9 (B0.out.keep hb)
 replace K0 := qh9 (K0.out.below hb)
 replace HW := qc9 HW hb
 clear hb
 have hn1 : ((Ob.sym x y).nodes : Int) ≤ 3000 := by show ((1 : Nat) : Int) ≤ 3000; decide
 go_wp2_with (first | ((with_reducible refine loadB (.tmp 1) ?_ ?_ ?_ B0.out ?_); rfl; rfl; rfl) | ((with_reducible refine loadG (.tmp 1) ?_ ?_ ?_ B0.out ?_); rfl; rfl; rfl))
 with_reducible refine (formedSymY x y _ HB.out).mono ?_
 rintro e w2 ⟨rfl, hb⟩
 replace B0 := qh9 (B0.out.keep hb)
 replace K0 := qh9 (K0.out.below hb)
 replace HW := qc9 HW hb
 clear hb
 go_wp2_with (first | ((with_reducible refine loadB (.tmp 1) ?_ ?_ ?_ B0.out ?_); rfl; rfl; rfl) | ((with_reducible refine loadG (.tmp 1) ?_ ?_ ?_ B0.out ?_); rfl; rfl; rfl))
 go_ret
 exact ⟨rfl, HW.out⟩
theorem validGR (o : Ob) (q : Value) (w : World) (hg : Good o) (h : Hd w o q) : Calls Tryz.prog 11 #[vO o q] w (RetB w true) := by
 rcases hg with ⟨h1, h2⟩ | ⟨p, n, rfl, hs⟩
 · exact valid2R o q w h1 h2 h
 · obtain rfl : q = .slice none 0 0 := h.flat rfl
   exact validSymR p n w hs
def LAr (l : List Ob) : Lv := fun v _ _ w => Ar w l v
theorem mLAr (l : List Ob) : Mon (LAr l) := fun _ _ _ _ _ h _ hb => Ar.below h hb
def LSl (n : Nat) : Lv := fun v _ _ _ => ∃ A c, v = .slice A n c
theorem mLSl (n : Nat) : Mon (LSl n) := fun _ _ _ _ _ h _ _ => h
section
variable {Q : Exit → Act → World → Prop} {ops : Array Oper} {K : Act → World → Prop} {a : Act} {w : World} {i : Nat} {o : Oper}
theorem gw_bs1c (ho : ops[i]? = some o) (hw : Region.wanted o (yielded ops a.tmps) = true) (s : Tmp) {c0 c1 c2 c3 c4 c5 c6 : Value} (hop : o.op = Op.buildSlice 25 1 #[(0, .tmp s)]) (hx : a.tmps[s]? = some (.agg #[c0, c1, c2, c3, c4, c5, c6])) (hK : K (a.put o.dst (.slice (some ⟨w.heap.size, 0, none⟩) 1 1)) (w.alloc (.cells #[c0, c1, c2, c3, c4, c5, c6] 27))) : wpOp Tryz.prog ops Q i K a w :=
 wpOp_step ho fun K' hK' => by
  rw [if_pos hw]
  unfold Oper.wp
  simp only [execOp, hop]
  go_simp
  exact hK' _ _ hK
theorem gw_bs2c (ho : ops[i]? = some o) (hw : Region.wanted o (yielded ops a.tmps) = true) (s t : Tmp) {c0 c1 c2 c3 c4 c5 c6 d0 d1 d2 d3 d4 d5 d6 : Value} (hop : o.op = Op.buildSlice 25 2 #[(0, .tmp s), (1, .tmp t)]) (hx : a.tmps[s]? = some (.agg #[c0, c1, c2, c3, c4, c5, c6])) (hy : a.tmps[t]? = some (.agg #[d0, d1, d2, d3, d4, d5, d6])) (hK : K (a.put o.dst (.slice (some ⟨w.heap.size, 0, none⟩) 2 2)) (w.alloc (.cells #[c0, c1, c2, c3, c4, c5, c6, d0, d1, d2, d3, d4, d5, d6] 27))) : wpOp Tryz.prog ops Q i K a w :=
 wpOp_step ho fun K' hK' => by
  rw [if_pos hw]
  unfold Oper.wp
  simp only [execOp, hop]
  go_simp
  exact hK' _ _ hK
theorem gw_bs1 (ho : ops[i]? = some o) (hw : Region.wanted o (yielded ops a.tmps) = true) (s : Tmp) {x : Ob} {p : Value} (hop : o.op = Op.buildSlice 25 1 #[(0, .tmp s)]) (hx : a.tmps[s]? = some (vO x p)) (hK : K (a.put o.dst (.slice (some ⟨w.heap.size, 0, none⟩) 1 1)) (w.alloc (.cells (cellsO x p).toArray 27))) : wpOp Tryz.prog ops Q i K a w := by
 obtain ⟨a0, a1, a2, a3, a4, a5, ea⟩ := cells7 x p
 have hx' : a.tmps[s]? = some (.agg (cellsO x p).toArray) := hx
 rw [ea] at hx' hK
 exact gw_bs1c ho hw s hop hx' hK
theorem gw_bs2 (ho : ops[i]? = some o) (hw : Region.wanted o (yielded ops a.tmps) = true) (s t : Tmp) {x y : Ob} {p q : Value} (hop : o.op = Op.buildSlice 25 2 #[(0, .tmp s), (1, .tmp t)]) (hx : a.tmps[s]? = some (vO x p)) (hy : a.tmps[t]? = some (vO y q)) (hK : K (a.put o.dst (.slice (some ⟨w.heap.size, 0, none⟩) 2 2)) (w.alloc (.cells (cellsO x p ++ cellsO y q).toArray 27))) : wpOp Tryz.prog ops Q i K a w := by
 obtain ⟨a0, a1, a2, a3, a4, a5, ea⟩ := cells7 x p
 obtain ⟨b0, b1, b2, b3, b4, b5, eb⟩ := cells7 y q
 have hx' : a.tmps[s]? = some (.agg (cellsO x p).toArray) := hx
 have hy' : a.tmps[t]? = some (.agg (cellsO y q).toArray) := hy
 rw [ea] at hx' hK
 rw [eb] at hy' hK
 exact gw_bs2c ho hw s t hop hx' hy' hK
theorem gw_eqcE (ho : ops[i]? = some o) (hw : Region.wanted o (yielded ops a.tmps) = true) (s : Tmp) (n m : Int) (hop : o.op = Op.binOp BinOp.eql 37 (.tmp s) (.const (.int .i64 m)) 37) (hx : a.tmps[s]? = some (.int .i64 n)) (hK : K (a.put o.dst (.bool (n == m))) w) : wpOp Tryz.prog ops Q i K a w :=
 wpOp_step ho fun K' hK' => by
  rw [if_pos hw]
  unfold Oper.wp
  simp only [execOp, hop]
  go_simp
  exact hK' _ _ hK
theorem gw_eqcI (ho : ops[i]? = some o) (hw : Region.wanted o (yielded ops a.tmps) = true) (s : Tmp) (n m : Int) (hop : o.op = Op.binOp BinOp.eql 3 (.tmp s) (.const (.int .i64 m)) 3) (hx : a.tmps[s]? = some (.int .i64 n)) (hK : K (a.put o.dst (.bool (n == m))) w) : wpOp Tryz.prog ops Q i K a w :=
 wpOp_step ho fun K' hK' => by
  rw [if_pos hw]
  unfold Oper.wp
  simp only [execOp, hop]
  go_simp
  exact hK' _ _ hK
theorem gw_lenS (ho : ops[i]? = some o) (hw : Region.wanted o (yielded ops a.tmps) = true) (s : Tmp) (A : Option Addr) (n c : Nat) (hop : o.op = Op.call { callee := .builtin .len, args := #[.tmp s], argTypes := #[60] }) (hx : a.tmps[s]? = some (.slice A n c)) (hK : K (a.put o.dst (.int .i64 (n : Int))) w) : wpOp Tryz.prog ops Q i K a w :=
 wpOp_step ho fun K' hK' => by
  rw [if_pos hw]
  unfold Oper.wp
  simp only [execOp, hop]
  go_simp
  exact hK' _ _ hK
theorem gw_0 (ho : ops[i]? = some o) (hw : Region.wanted o (yielded ops a.tmps) = true) (f : FuncId) (ts : Array TypeId) (hop : o.op = Op.call { callee := Callee.value (Operand.func f), args := #[], argTypes := ts }) (hf : ∀ (w : World), (callFunc f #[]).run Tryz.prog w = .ok (.enter f #[]) w) (hc : Calls Tryz.prog f #[] w fun e w' => ∃ r, e = .returned r ∧ K (a.put o.dst r) w') : wpOp Tryz.prog ops Q i K a w :=
 wpOp_step ho fun K' hK' => by
  rw [if_pos hw]
  unfold Oper.wp
  simp only [execOp, hop]
  go_simp
  refine hc.mono ?_
  rintro e w' ⟨r, rfl, h⟩
  exact hK' _ _ h
theorem gw_ct (ho : ops[i]? = some o) (hw : Region.wanted o (yielded ops a.tmps) = true) (f : FuncId) (s1 : Tmp) (v0 v1 : Value) (ts : Array TypeId) (hop : o.op = Op.call { callee := Callee.value (Operand.func f), args := #[.const v0, .tmp s1], argTypes := ts }) (hf : ∀ (v0 v1 : Value) (w : World), (callFunc f #[v0, v1]).run Tryz.prog w = .ok (.enter f #[v0, v1]) w) (h1 : a.tmps[s1]? = some v1) (hc : Calls Tryz.prog f #[v0, v1] w fun e w' => ∃ r, e = .returned r ∧ K (a.put o.dst r) w') : wpOp Tryz.prog ops Q i K a w :=
 wpOp_step ho fun K' hK' => by
  rw [if_pos hw]
  unfold Oper.wp
  simp only [execOp, hop]
  go_simp
  refine hc.mono ?_
  rintro e w' ⟨r, rfl, h⟩
  exact hK' _ _ h
end
set_option maxHeartbeats 4000000 in
set_option maxRecDepth 100000 in
theorem valueO (i : Nat) (hi : i < 25) (l : List Ob) (v : Value) (w : World) (hv : Ar w l v) (hl : l.length = arB.getD i 0) (hF : ∀ o ∈ l, Fine o) (hI : i = 23 ∨ i = 24 → ∀ o ∈ l, IntO o) (hg : Good (primV i l)) (ht : Tab w) : Calls Tryz.prog 13 #[.string (nmS i), v] w (RetH w (primV i l)) := by
 have CA : Hid (∀ W, Below w.heap.size w W → Calls Tryz.prog 17 #[.agg #[.string (BA lispB), .string (nmS i)], v] W (fun e w' => ∃ p, e = .returned (.tuple #[vO (primV i l) p, .int .i64 0]) ∧ Hd w' (primV i l) p ∧ Below W.heap.size W w')) := fun W hb => by
  have h := applyPall (BA lispB) (nmS i) l v W (hv.below hb) true (ht.below hb) hF (fun j hj => by rw [fnd_at i hi] at hj; injection hj with hj; subst hj; exact hI) (fun j hj _ W q hq _ => by
   rw [fnd_at i hi] at hj; injection hj with hj; subst hj; exact validGP _ q W hg hq)
  rw [fnd_at i hi, show appV true (some i) l = (some (primV i l), 0) from if_pos hl] at h
  exact h
 obtain ⟨A, c, rfl, hv1, hv2⟩ := hv
 clear hF hI hg hl ht hv1 hv2
 generalize primV i l = res at CA ⊢
 generalize l.length = n at *
 generalize nmS i = nm at *
 have T := Bx1.new w #[.int .i64 0, .string ⟨#[]⟩, .string ⟨#[]⟩, .string ⟨#[]⟩, .string ⟨#[]⟩, .string ⟨#[]⟩, .slice none 0 0]
 go_enter Tryz.func13, Tryz.ntmps13
 go_upto_region 1 with fail
 generalize w.alloc (.cells #[.int .i64 0, .string ⟨#[]⟩, .string ⟨#[]⟩, .string ⟨#[]⟩, .string ⟨#[]⟩, .string ⟨#[]⟩, .slice none 0 0] 27) = W at T ⊢
 have R0 := qh9 T.b0
 have HW := qh9 T.bel
 clear T  
 go_wp2_with fail
 with_reducible refine (lispO _ _).mono ?_
 rintro e w1 ⟨rfl, hb⟩
 replace R0 := qh9 (R0.out.keep hb)
 replace HW := qc9 HW hb
 clear hb
 go_wp2_with fail
 with_reducible refine (CA.out _ HW.out).mono ?_
 rintro e w2 ⟨pr, rfl, kr, hb⟩
 replace R0 := qh9 (R0.out.keep hb)
 replace HW := qc9 HW hb
 clear hb CA
 replace kr := qh9 kr
 have N1 := qh9 (Bx1.new w2 #[.int .i64 0, .string ⟨#[]⟩, .string ⟨#[]⟩, .string ⟨#[]⟩, .string ⟨#[]⟩, .string ⟨#[]⟩, .slice none 0 0])
 go_upto_region 2 with ((with_reducible refine storeB (w1 := w2) (g := w2.heap.size) (b := res) (p := pr) (.tmp 5) (.tmp 12) ?_ ?_ ?_ ?_ kr.out N1.out.b0 ?_); rfl; rfl; rfl; rfl)
 have Q := Pt1.new (w := w2) (o := res) (p := pr) (z := #[.int .i64 0, .string ⟨#[]⟩, .string ⟨#[]⟩, .string ⟨#[]⟩, .string ⟨#[]⟩, .string ⟨#[]⟩, .slice none 0 0])
 generalize World.setRow (w2.alloc (.cells #[.int .i64 0, .string ⟨#[]⟩, .string ⟨#[]⟩, .string ⟨#[]⟩, .string ⟨#[]⟩, .string ⟨#[]⟩, .slice none 0 0] 27)) w2.heap.size (cellsO res pr).toArray = X2 at Q ⊢
 have hb := Q.bel
 replace R0 := qh9 (R0.out.keep hb)
 replace HW := qc9 HW hb
 replace kr := qh9 (kr.out.below hb)
 have B1 := qh9 Q.b0
 clear hb Q N1
 go_wp2_with (first | ((with_reducible refine storeB (w1 := X2) (g := w.heap.size) (b := res) (p := pr) (.tmp 4) (.tmp 17) ?_ ?_ ?_ ?_ kr.out R0.out ?_); rfl; rfl; rfl; rfl) | ((with_reducible refine loadB (.tmp 5) ?_ ?_ ?_ B1.out ?_); rfl; rfl; rfl) | ((with_reducible refine loadG (.tmp 5) ?_ ?_ ?_ B1.out ?_); rfl; rfl; rfl))
 exact retHs rfl rfl R0.out rfl kr.out (by omega) HW.out
end Go.Proofs.YtbffnoodpoagcaaGreatDoor
