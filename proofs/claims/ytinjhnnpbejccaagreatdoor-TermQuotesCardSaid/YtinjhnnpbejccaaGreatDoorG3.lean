import Derived.Test.YtinjhnnpbejccaaGreatDoorAl
import Derived.Test.YtinjhnnpbejccaaGreatDoorG2
import Derived.Test.YtinjhnnpbejccaaGreatDoorChecked
import Derived.WalkKit
import Derived.WalkSpells
import Derived.WalkLawsBesides
import Derived.Lib.Hide
import Derived.Lib.Strings
namespace Go.Proofs.YtinjhnnpbejccaaGreatDoor
open Go Go.RowKit
set_option linter.unusedVariables false
set_option maxHeartbeats 32000000
set_option maxRecDepth 100000
theorem minus_piece (s : ByteArray) (h1 : 1 ≤ s.size) : ((s.extract 0 1).toList == [45]) = isMinus (LA s) := by
 rw [Lib.toList_data, Lib.extract_data]
 have hl : 0 < (LA s).length := by rw [LA_length]; omega
 unfold isMinus
 show ((((LA s).drop 0).take (1 - 0)) == [45]) = _
 generalize LA s = l at hl ⊢
 cases l with
 | nil => simp at hl
 | cons c r => simp

theorem hasMinus (s : ByteArray) (w : World) (hs : s.size ≤ maxLen) (h1 : 1 ≤ s.size) :
 Calls Tryz.prog 213 #[.string s, .string ⟨#[45]⟩] w fun e w' => e = .returned (.bool (isMinus (LA s))) ∧ w = w' := by
 unfold maxLen at hs
 go_enter Tryz.func213, Tryz.ntmps213
 go_wp2
 go_ret
 exact ⟨ret_bool (minus_piece s h1), rfl⟩

theorem strip_minus_eq {s : ByteArray} (h : isMinus (LA s) = true) : BA (strip (LA s)) = s.extract 1 s.size := by
 unfold strip
 rw [if_pos h, Lib.extract_eq]
 have e : ((LA s).drop 1).take (s.size - 1) = (LA s).tail := by
  rw [List.take_of_length_le (by rw [List.length_drop, LA_length]; exact Nat.le_refl _), List.drop_one]
 show BA _ = BA (((LA s).drop 1).take (s.size - 1))
 rw [e]
theorem strip_plain_eq {s : ByteArray} (h : isMinus (LA s) = false) : BA (strip (LA s)) = s := by
 unfold strip
 rw [h]
 exact BA_LA s

theorem trimMinus (s : ByteArray) (w : World) (hs : s.size ≤ maxLen) :
 Calls Tryz.prog 206 #[.string s, .string ⟨#[45]⟩] w fun e w' => e = .returned (.string (BA (strip (LA s)))) ∧ w = w' := by
 have hs0 := hs
 unfold maxLen at hs
 by_cases h1 : 1 ≤ s.size
 · cases hm : isMinus (LA s) with
   | true =>
    have He := qh9 (strip_minus_eq hm)
    go_enter Tryz.func206, Tryz.ntmps206
    go_wp2_with (first | (go_at_call 213; refine (hasMinus s _ hs0 h1).mono ?_; rintro e w' ⟨rfl, rfl⟩) | go_in)
    go_ret
    exact ⟨ret_string He.out.symm, rfl⟩
   | false =>
    have He := qh9 (strip_plain_eq hm)
    go_enter Tryz.func206, Tryz.ntmps206
    go_wp2_with (first | (go_at_call 213; refine (hasMinus s _ hs0 h1).mono ?_; rintro e w' ⟨rfl, rfl⟩) | go_in)
    go_ret
    exact ⟨ret_string He.out.symm, rfl⟩
 · have hm : isMinus (LA s) = false := by
    have hl : (LA s).length = 0 := by rw [LA_length]; omega
    rw [List.length_eq_zero_iff.1 hl]; rfl
   have He := qh9 (strip_plain_eq hm)
   clear hm
   go_enter Tryz.func206, Tryz.ntmps206
   go_wp2
   go_ret
   exact ⟨ret_string He.out.symm, rfl⟩

theorem LA_get (t : ByteArray) (i : Nat) (h : i < t.size) : (LA t)[i]? = some t[i] := by
 unfold LA
 rw [Array.getElem?_toList, Array.getElem?_eq_getElem h]
 rfl
theorem LA_ne {t : ByteArray} (h : 1 ≤ t.size) : ∃ r, LA t = t[0] :: r := by
 have h1 := LA_get t 0 h
 cases hl : LA t with
 | nil => rw [hl] at h1; cases h1
 | cons c r =>
  rw [hl] at h1
  simp only [List.getElem?_cons_zero, Option.some.injEq] at h1
  exact ⟨r, by rw [h1]⟩
theorem good_of_all {t : ByteArray} (h : 1 ≤ t.size) (h48 : t[0] ≠ 48) : goodDigits (LA t) = (LA t).all isDig := by
 obtain ⟨r, e⟩ := LA_ne h
 rw [e]
 simp only [goodDigits, List.all_cons]
 rw [show (t[0] != 48) = true from by simpa using h48, Bool.true_and]
theorem good_48 {t : ByteArray} (h : 1 ≤ t.size) (h48 : t[0] = 48) : goodDigits (LA t) = false := by
 obtain ⟨r, e⟩ := LA_ne h
 rw [e, h48]
 simp [goodDigits]
theorem all_take {t : ByteArray} {i : Nat} (h : i < t.size) (ht : ((LA t).take i).all isDig = true) (hd : isDig t[i] = true) : ((LA t).take (i + 1)).all isDig = true := by
 rw [List.take_add_one, LA_get t i h, List.all_append, ht]
 simp [hd]
theorem all_not {t : ByteArray} {i : Nat} (h : i < t.size) (hd : isDig t[i] = false) : (LA t).all isDig = false := by
 rw [List.all_eq_false]
 have h1 := LA_get t i h
 exact ⟨t[i], List.mem_of_getElem? h1, by simpa using hd⟩
theorem isDig_iff (c : UInt8) : isDig c = true ↔ 48 ≤ (c.toNat : Int) ∧ (c.toNat : Int) ≤ 57 := by
 simp only [isDig, Bool.and_eq_true, decide_eq_true_eq]
 omega
theorem byte_ne_48 {c : UInt8} : ((c.toNat : Int) == 48) = (c == 48) := by
 rw [Bool.eq_iff_iff, beq_iff_eq, beq_iff_eq]
 constructor
 · intro h
   exact UInt8.toNat_inj.1 (by simp; omega)
 · intro h
   subst h
   rfl

theorem valid_any (s : ByteArray) (w : World) (hs : s.size ≤ maxLen) :
 Calls Tryz.prog 195 #[.string s] w fun e w' => e = .returned (.bool (valid (LA s))) ∧ w = w' := by
 have hs0 := hs
 unfold maxLen at hs
 by_cases h48 : LA s = [48]
 · have e48 : (s.toList == [48]) = true := by rw [Lib.toList_data, beq_iff_eq]; exact h48
   have hv : Hid (valid (LA s) = true) := by show _ = _; rw [h48]; decide
   clear h48
   go_enter Tryz.func195, Tryz.ntmps195
   go_wp2_with fail
   go_ret
   exact ⟨ret_bool hv.out.symm, rfl⟩
 · have e48 : (s.toList == [48]) = false := by rw [Lib.toList_data, beq_eq_false_iff_ne]; exact h48
   have hv : Hid (valid (LA s) = goodDigits (strip (LA s))) := by
    show _ = _
    unfold valid
    rw [show (LA s == [48]) = false from by rw [beq_eq_false_iff_ne]; exact h48, Bool.false_or]
   have hts : (BA (strip (LA s))).size ≤ s.size := by rw [BA_size, ← LA_length s]; exact strip_length _
   clear h48
   go_enter Tryz.func195, Tryz.ntmps195
   go_wp2_with fail
   refine (trimMinus s _ hs0).mono ?_
   rintro e w' ⟨rfl, rfl⟩
   obtain ⟨t, ht⟩ : ∃ t, BA (strip (LA s)) = t := ⟨_, rfl⟩
   have hlt : strip (LA s) = LA t := by rw [← ht]; rfl
   rw [hlt] at hv
   rw [ht] at hts ⊢
   clear ht hlt
   by_cases h0 : 1 ≤ t.size
   · have hp : 0 < t.size := h0
     have hne1 : t.toList.isEmpty = false := by
      rw [Lib.toList_data]
      obtain ⟨r, e⟩ := LA_ne h0
      show (LA t).isEmpty = false
      rw [e]; rfl
     have hne2 : ¬ t.toList = [] := by intro e; rw [e] at hne1; cases hne1
     by_cases hz : t[0] = 48
     · have e0 : (((t[0]'hp).toNat : Int) == 48) = true := by rw [byte_ne_48, hz]; rfl
       have hg := qh9 (good_48 h0 hz)
       clear hz
       go_wp2
       go_ret
       exact ⟨ret_bool (by rw [hv.out, hg.out]), rfl⟩
     · have e0 : (((t[0]'hp).toNat : Int) == 48) = false := by rw [byte_ne_48, beq_eq_false_iff_ne]; exact hz
       have hg := qh9 (good_of_all h0 hz)
       clear hz
       go_wp2
       go_loop [17] (fun v => ∃ i : Nat, i ≤ t.size ∧ v = .int .i64 i ∧ Hid (((LA t).take i).all isDig = true)) (fun v => t.size - (intOf v).toNat)
       case atStart => exact ⟨0, Nat.zero_le _, rfl, rfl⟩
       case round =>
        obtain ⟨i, hi, rfl, hall⟩ := hrel
        by_cases hit : i < t.size
        · by_cases hd : isDig (t[i]'hit) = true
          · obtain ⟨b1, b2⟩ := (isDig_iff _).1 hd
            have hall2 := qh9 (all_take hit hall.out hd)
            clear hd hall
            go_wp2
            go_round
            case rel => exact ⟨i + 1, by omega, by go_num, hall2⟩
            case measure => simp [intOf]; omega
          · have hn := qh9 (all_not hit (by simpa using hd))
            have hd2 : ¬ (48 ≤ ((t[i]'hit).toNat : Int) ∧ ((t[i]'hit).toNat : Int) ≤ 57) := fun h => hd ((isDig_iff _).2 h)
            clear hd hall
            by_cases b1 : ((t[i]'hit).toNat : Int) < 48
            · clear hd2
              go_wp2
              go_ret
              exact ⟨ret_bool (by rw [hv.out, hg.out, hn.out]), rfl⟩
            · have b2 : 57 < ((t[i]'hit).toNat : Int) := by omega
              clear hd2
              go_wp2
              go_ret
              exact ⟨ret_bool (by rw [hv.out, hg.out, hn.out]), rfl⟩
        · have hfin : Hid ((LA t).all isDig = true) := by
           have := hall.out
           rw [List.take_of_length_le (by rw [LA_length]; omega)] at this
           exact this
          clear hall
          go_wp2
          go_ret
          exact ⟨ret_bool (by rw [hv.out, hg.out, hfin.out]), rfl⟩
   · have hl : LA t = [] := List.length_eq_zero_iff.1 (by rw [LA_length]; omega)
     have hne2 : t.toList = [] := by rw [Lib.toList_data]; exact hl
     have hv2 : Hid (valid (LA s) = false) := by show _ = _; rw [hv.out, hl]; rfl
     clear hl hv
     go_wp2
     go_ret
     exact ⟨ret_bool hv2.out.symm, rfl⟩
theorem dg_out {xs : List Nat} {j : Nat} (h : xs.length ≤ j) : dg xs j = 0 := by
 unfold dg
 rw [List.getD_eq_getElem?_getD, List.getElem?_eq_none h]
 rfl
theorem ofD_take_succ (xs : List Nat) (k : Nat) : ofD (xs.take (k + 1)) = ofD (xs.take k) + 10 ^ k * xs.getD k 0 := by
 rcases Nat.lt_or_ge k xs.length with h | h
 · rw [List.take_succ_eq_append_getElem h, ofD_append, List.length_take, Nat.min_eq_left (by omega)]
   rw [List.getD_eq_getElem?_getD, List.getElem?_eq_getElem h]
   simp [ofD]
 · rw [List.take_of_length_le (by omega), List.take_of_length_le h, List.getD_eq_getElem?_getD, List.getElem?_eq_none h]
   simp

theorem getD_set_self {cs : List Nat} {k : Nat} (d : Nat) (h : k < cs.length) : (cs.set k d).getD k 0 = d := by
 rw [List.getD_eq_getElem?_getD, List.getElem?_set_self h]; rfl
theorem getD_set_ne {cs : List Nat} {k j : Nat} (d : Nat) (h : k ≠ j) : (cs.set k d).getD j 0 = cs.getD j 0 := by
 rw [List.getD_eq_getElem?_getD, List.getElem?_set_ne h, List.getD_eq_getElem?_getD]
theorem AllDig.set_ {cs : List Nat} (h : AllDig cs) (k : Nat) {d : Nat} (hd : d < 10) : AllDig (cs.set k d) := by
 intro x hx
 rcases List.mem_or_eq_of_mem_set hx with h1 | h1
 · exact h x h1
 · omega
def AddInv (a b cs : List Nat) (k : Nat) (c : Int) : Prop :=
 AllDig cs ∧ ((ofD (cs.take k) : Nat) : Int) + ((10 ^ k : Nat) : Int) * c = ((ofD (a.take k) + ofD (b.take k) : Nat) : Int)

def zeros (n : Nat) : List Nat := List.replicate n 0
theorem zeros_length (n : Nat) : (zeros n).length = n := List.length_replicate
theorem zeros_dig (n : Nat) : AllDig (zeros n) := by
 intro d hd
 have := List.eq_of_mem_replicate hd
 omega
theorem zeros_get (n j : Nat) : (zeros n).getD j 0 = 0 := by
 unfold zeros
 rw [List.getD_eq_getElem?_getD, List.getElem?_replicate]
 split <;> rfl

def SubInv (zs ys ss : List Nat) (i : Nat) (q : Int) : Prop :=
 AllDig ss ∧ ss.length = zs.length ∧ ((ofD ss : Nat) : Int) + ((ofD (ys.take i) : Nat) : Int) = ((ofD zs : Nat) : Int) + ((10 ^ i : Nat) : Int) * q ∧ ∀ j, i ≤ j → ss.getD j 0 = zs.getD j 0

theorem SubInv.start {zs ys : List Nat} (h : AllDig zs) : SubInv zs ys zs 0 0 := ⟨h, rfl, by simp [ofD], fun _ _ => rfl⟩

theorem ofD_set {cs : List Nat} {i : Nat} (d : Nat) (h : i < cs.length) : ((ofD (cs.set i d) : Nat) : Int) = ((ofD cs : Nat) : Int) + ((10 ^ i : Nat) : Int) * ((d : Int) - dg cs i) := by
 have e1 : cs = cs.take i ++ (cs[i] :: cs.drop (i + 1)) := by simp
 have e2 : cs.set i d = cs.take i ++ (d :: cs.drop (i + 1)) := List.set_eq_take_append_cons_drop .. |>.trans (if_pos h)
 have hg : dg cs i = cs[i] := by unfold dg; rw [List.getD_eq_getElem?_getD, List.getElem?_eq_getElem h]; rfl
 have v1 : ofD cs = ofD (cs.take i) + 10 ^ i * (cs[i] + 10 * ofD (cs.drop (i + 1))) := by
  conv => lhs; rw [e1]
  rw [ofD_append, List.length_take, Nat.min_eq_left (by omega), ofD]
 rw [hg, e2, ofD_append, List.length_take, Nat.min_eq_left (by omega), ofD, v1]
 simp only [Int.natCast_add, Int.natCast_mul, Int.mul_add, Int.mul_sub]
 omega

theorem SubInv.step {zs ys ss : List Nat} {i : Nat} {q q' : Int} {d : Nat} (h : SubInv zs ys ss i q) (hi : i < zs.length) (hd : d < 10) (e : (d : Int) = dg ss i + 10 * q' - (q + dg ys i)) : SubInv zs ys (ss.set i d) (i + 1) q' := by
 obtain ⟨h1, h2, h3, h4⟩ := h
 refine ⟨h1.set_ i hd, by simpa using h2, ?_, fun j hj => by rw [getD_set_ne _ (by omega)]; exact h4 j (by omega)⟩
 rw [ofD_set d (by omega), ofD_take_succ, e]
 have e2 : ((ys.getD i 0 : Nat) : Int) = dg ys i := rfl
 simp only [Int.natCast_add, Int.natCast_mul, Nat.pow_succ, e2, Int.mul_add, Int.mul_sub] at h3 ⊢
 have e3 : ((10 ^ i : Nat) : Int) * ((10 : Nat) : Int) * q' = ((10 ^ i : Nat) : Int) * (10 * q') := by rw [Int.mul_assoc]; rfl
 rw [e3]
 omega

theorem SubInv.done {zs ys ss : List Nat} {i : Nat} {q : Int} (h : SubInv zs ys ss i q) (hi : ys.length ≤ i) (hq : q = 0) : AllDig ss ∧ ss.length = zs.length ∧ ofD ss + ofD ys = ofD zs := by
 obtain ⟨h1, h2, h3, _⟩ := h
 subst hq
 rw [List.take_of_length_le hi] at h3
 exact ⟨h1, h2, by omega⟩
theorem SubInv.none_left {zs ys ss : List Nat} {i : Nat} {q : Int} (h : SubInv zs ys ss i q) (hi : ys.length ≤ i) (hl : i = zs.length) (hle : ofD ys ≤ ofD zs) (h0 : 0 ≤ q) (h1 : q ≤ 1) : q = 0 := by
 obtain ⟨g1, g2, g3, _⟩ := h
 rw [List.take_of_length_le hi] at g3
 have := ofD_lt g1
 rw [g2, ← hl] at this
 rcases (show q = 0 ∨ q = 1 by omega) with e | e
 · exact e
 · subst e; omega
def MulInv (N : Nat) (a b cs : List Nat) (i j : Nat) (q : Int) : Prop :=
 AllDig cs ∧ cs.length = N ∧ ((ofD cs : Nat) : Int) + ((10 ^ (i + j) : Nat) : Int) * q = ((ofD (a.take i) * ofD b : Nat) : Int) + ((10 ^ i * ofD (b.take j) : Nat) : Int) * dg a i ∧ ∀ t, i + b.length ≤ t → cs.getD t 0 = 0

theorem MulInv.start (N : Nat) (a b : List Nat) : MulInv N a b (zeros N) 0 0 0 := by
 refine ⟨zeros_dig _, zeros_length _, ?_, fun t _ => zeros_get _ _⟩
 have : ∀ n, ofD (zeros n) = 0 := by
  intro n
  induction n with
  | zero => rfl
  | succ n ih => unfold zeros at *; rw [List.replicate_succ, ofD, ih]
 rw [this]
 simp [ofD]

theorem mul_column {V P X Y T q t c x y : Int} (h : V + P * q = X + Y * x) (ht : t = c + x * y + q) (hT : T = P) : V + P * (t % 10 - c) + P * 10 * (t / 10) = X + (Y + T * y) * x := by
 subst hT
 have h1 : t % 10 + 10 * (t / 10) = t := Int.emod_add_mul_ediv t 10
 have h2 : T * (t % 10 - c) + T * 10 * (t / 10) = T * (x * y) + T * q := by
  rw [Int.mul_assoc, ← Int.mul_add, ← Int.mul_add]
  congr 1
  omega
 have h3 : (Y + T * y) * x = Y * x + T * (x * y) := by
  rw [Int.add_mul, Int.mul_assoc, Int.mul_comm y x]
 omega

theorem MulInv.step {N : Nat} {a b cs : List Nat} {i j : Nat} {q : Int} (h : MulInv N a b cs i j q) (hN : a.length + b.length ≤ N) (hi : i < a.length) (hj : j < b.length) (h0 : 0 ≤ q) (hx : 0 ≤ dg a i * dg b j) :
 MulInv N a b (cs.set (i + j) ((dg cs (i + j) + dg a i * dg b j + q) % 10).toNat) i (j + 1) ((dg cs (i + j) + dg a i * dg b j + q) / 10) := by
 obtain ⟨h1, h2, h3, h4⟩ := h
 have hc := dg_nonneg cs (i + j)
 have e : ((((dg cs (i + j) + dg a i * dg b j + q) % 10).toNat : Nat) : Int) = (dg cs (i + j) + dg a i * dg b j + q) % 10 := Int.toNat_of_nonneg (Int.emod_nonneg _ (by decide))
 refine ⟨h1.set_ _ (by omega), by simpa using h2, ?_, fun t ht => by rw [getD_set_ne _ (by omega)]; exact h4 t ht⟩
 rw [ofD_set _ (by omega), e, ofD_take_succ b j]
 simp only [Int.natCast_add, Int.natCast_mul, Nat.pow_succ, Nat.pow_add, Nat.mul_add, ← Nat.add_assoc] at h3 ⊢
 have ed : ((b.getD j 0 : Nat) : Int) = dg b j := rfl
 rw [ed]
 have key := mul_column (t := dg cs (i + j) + dg a i * dg b j + q) (y := dg b j) (T := ((10 ^ i : Nat) : Int) * ((10 ^ j : Nat) : Int)) h3 rfl rfl
 rw [← Int.mul_assoc]
 exact key

theorem MulInv.row {N : Nat} {a b cs : List Nat} {i : Nat} {q : Int} {lb : Nat} (h : MulInv N a b cs i lb q) (hN : a.length + b.length ≤ N) (hlb : b.length = lb) (hi : i < a.length) (h0 : 0 ≤ q) (h1 : q < 10) :
 MulInv N a b (cs.set (i + lb) q.toNat) (i + 1) 0 0 := by
 subst hlb
 obtain ⟨g1, g2, g3, g4⟩ := h
 have e : ((q.toNat : Nat) : Int) = q := Int.toNat_of_nonneg h0
 have ez : dg cs (i + b.length) = 0 := by unfold dg; rw [g4 _ (Nat.le_refl _)]; rfl
 refine ⟨g1.set_ _ (by omega), by simpa using g2, ?_, fun t ht => by rw [getD_set_ne _ (by omega)]; exact g4 t (by omega)⟩
 rw [ofD_set _ (by omega), e, ez, Int.sub_zero, g3, List.take_length, ofD_take_succ a i]
 simp only [List.take_zero, ofD, Nat.mul_zero, Int.mul_zero, Int.natCast_zero, Int.zero_mul, Int.add_zero, Nat.add_mul, Int.natCast_add, Int.natCast_mul]
 have ed : ((a.getD i 0 : Nat) : Int) = dg a i := rfl
 rw [ed, Int.mul_assoc, Int.mul_assoc, Int.mul_comm (dg a i)]

theorem MulInv.done {N : Nat} {a b cs : List Nat} {q : Int} {la : Nat} (h : MulInv N a b cs la 0 q) (hla : a.length = la) (hq : q = 0) : AllDig cs ∧ ofD cs = ofD a * ofD b := by
 subst hla hq
 obtain ⟨g1, g2, g3, g4⟩ := h
 refine ⟨g1, ?_⟩
 rw [List.take_length] at g3
 simp only [List.take_zero, ofD, Nat.mul_zero, Int.mul_zero, Int.natCast_zero, Int.zero_mul, Int.add_zero] at g3
 exact_mod_cast g3
def Zs (xs : List Nat) (n : Nat) : Prop := ∀ j, n ≤ j → j < xs.length → xs.getD j 0 = 0

theorem Zs.done {xs : List Nat} {n : Nat} (h : Zs xs n) (ha : AllDig xs) (hn : n ≤ xs.length) (ht : n = 0 ∨ xs.getD (n - 1) 0 ≠ 0) : (digs (ofD xs)).length = n := by
 rw [← digs_of_take ha n hn h ht, List.length_take]
 omega
theorem Zs.down {xs : List Nat} {n : Nat} (h : Zs xs n) (h0 : xs.getD (n - 1) 0 = 0) : Zs xs (n - 1) := by
 intro j hj hl
 by_cases e : j = n - 1
 · rw [e]; exact h0
 · exact h j (by omega) hl

theorem trim_any (A : Option Addr) (xs : List Nat) (v n c : Nat) (w : World) (B : Nat) (hv : ofD xs = v) (hn : xs.length = n) (h : Reads w B .u8 A xs) (ha : AllDig xs) (hl : n ≤ c) (hc : n ≤ 10000000000) :
 Calls Tryz.prog 208 #[.slice A n c] w fun e w' => e = .returned (.slice A (digs v).length c) ∧ w = w' := by
 subst hv
 have Hn := qh9 hn
 clear hn
 go_enter Tryz.func208, Tryz.ntmps208
 go_wp2
 go_loop [3] (fun v => ∃ k : Nat, k ≤ n ∧ v = .int .i64 k ∧ Hid (Zs xs k)) (fun v => (intOf v).toNat)
 case atStart => exact ⟨n, Nat.le_refl _, rfl, fun j hj hl' => by have := Hn.out; omega⟩
 case round =>
  obtain ⟨k, hk, rfl, hz⟩ := hrel
  by_cases hk0 : k = 0
  · subst hk0
    go_wp2
    go_ret
    exact ⟨ret_slice ((hz.out).done ha (by have := Hn.out; omega) (.inl rfl)).symm, rfl⟩
  · obtain ⟨b, o, hA, hB, hcell⟩ := h (by have := Hn.out; omega)
    replace hcell := hcell (k - 1) (by have := Hn.out; omega)
    clear h
    subst hA
    by_cases hd : xs.getD (k - 1) 0 = 0
    · have hd1 : (dg xs (k - 1) == 0) = true := by unfold dg; rw [hd]; rfl
      have Hd := qh9 hd
      clear hd
      go_wp2
      go_round
      case rel => exact ⟨k - 1, by omega, by go_num, (hz.out).down Hd.out⟩
      case measure => simp [intOf]; omega
    · have hd1 : (dg xs (k - 1) == 0) = false := by rw [beq_eq_false_iff_ne]; unfold dg; omega
      have Hd := qh9 hd
      clear hd
      go_wp2
      go_ret
      exact ⟨ret_slice ((hz.out).done ha (by have := Hn.out; omega) (.inr Hd.out)).symm, rfl⟩
end Go.Proofs.YtinjhnnpbejccaaGreatDoor
