/- Plain mathematics of column arithmetic: what the loops of addition, subtraction and multiplication keep. No program is named here. -/
import Derived.Test.YtfnkmgipjemkdaaDoorMem
namespace Go.Proofs.YtfnkmgipjemkdaaDoor
open Go Go.RowKit
set_option linter.unusedVariables false

theorem dg_out {xs : List Nat} {j : Nat} (h : xs.length ≤ j) : dg xs j = 0 := by
  unfold dg
  rw [List.getD_eq_getElem?_getD, List.getElem?_eq_none h]
  rfl

/-- Taking one digit more. -/
theorem ofD_take_succ (xs : List Nat) (k : Nat) : ofD (xs.take (k + 1)) = ofD (xs.take k) + 10 ^ k * xs.getD k 0 := by
  rcases Nat.lt_or_ge k xs.length with h | h
  · rw [List.take_succ_eq_append_getElem h, ofD_append, List.length_take, Nat.min_eq_left (by omega)]
    rw [List.getD_eq_getElem?_getD, List.getElem?_eq_getElem h]
    simp [ofD]
  · rw [List.take_of_length_le (by omega), List.take_of_length_le h, List.getD_eq_getElem?_getD, List.getElem?_eq_none h]
    simp

theorem take_set_self (cs : List Nat) (k d : Nat) : (cs.set k d).take k = cs.take k := by
  rw [List.take_set]
  apply List.set_eq_of_length_le
  rw [List.length_take]
  omega
theorem getD_set_self {cs : List Nat} {k : Nat} (d : Nat) (h : k < cs.length) : (cs.set k d).getD k 0 = d := by
  rw [List.getD_eq_getElem?_getD, List.getElem?_set_self h]; rfl
theorem getD_set_ne {cs : List Nat} {k j : Nat} (d : Nat) (h : k ≠ j) : (cs.set k d).getD j 0 = cs.getD j 0 := by
  rw [List.getD_eq_getElem?_getD, List.getElem?_set_ne h, List.getD_eq_getElem?_getD]
theorem AllDig.set_ {cs : List Nat} (h : AllDig cs) (k : Nat) {d : Nat} (hd : d < 10) : AllDig (cs.set k d) := by
  intro x hx
  rcases List.mem_or_eq_of_mem_set hx with h1 | h1
  · exact h x h1
  · omega

/-- The first k columns of a + b are done; c is carried. -/
def AddInv (a b cs : List Nat) (k : Nat) (c : Int) : Prop :=
  AllDig cs ∧ ((ofD (cs.take k) : Nat) : Int) + ((10 ^ k : Nat) : Int) * c = ((ofD (a.take k) + ofD (b.take k) : Nat) : Int)

theorem add_column {P A C D x y s c : Int} (h : A + P * c = C + D) (hs : s = x + c + y) : A + P * (s % 10) + P * 10 * (s / 10) = C + P * x + (D + P * y) := by
  have h1 : s % 10 + 10 * (s / 10) = s := Int.emod_add_mul_ediv s 10
  have h2 : P * (s % 10) + P * 10 * (s / 10) = P * s := by
    rw [Int.mul_assoc, ← Int.mul_add, h1]
  have h3 : P * s = P * x + P * c + P * y := by rw [hs, Int.mul_add, Int.mul_add]
  omega

theorem AddInv.step {a b cs : List Nat} {k : Nat} {c : Int} (h : AddInv a b cs k c) (ha : AllDig a) (hb : AllDig b) (h0 : 0 ≤ c) (h1 : c ≤ 1) (hk : k < cs.length) :
    AddInv a b (cs.set k ((dg a k + c + dg b k) % 10).toNat) (k + 1) ((dg a k + c + dg b k) / 10) := by
  refine ⟨h.1.set_ k (by have := Int.emod_lt_of_pos (dg a k + c + dg b k) (show (0 : Int) < 10 by decide); omega), ?_⟩
  have hx := dg_nonneg a k
  have hy := dg_nonneg b k
  rw [ofD_take_succ, take_set_self, getD_set_self _ hk, ofD_take_succ a, ofD_take_succ b]
  have e : ((((dg a k + c + dg b k) % 10).toNat : Nat) : Int) = (dg a k + c + dg b k) % 10 := Int.toNat_of_nonneg (Int.emod_nonneg _ (by decide))
  have h2 := h.2
  simp only [Int.natCast_add, Int.natCast_mul, Nat.pow_succ] at h2 ⊢
  rw [e]
  exact add_column (x := dg a k) (y := dg b k) h2 rfl

/-- The numbers n zeros. -/
def zeros (n : Nat) : List Nat := List.replicate n 0
theorem zeros_length (n : Nat) : (zeros n).length = n := List.length_replicate
theorem zeros_dig (n : Nat) : AllDig (zeros n) := by
  intro d hd
  have := List.eq_of_mem_replicate hd
  omega
theorem zeros_get (n j : Nat) : (zeros n).getD j 0 = 0 := by
  unfold zeros
  rw [List.getD_eq_getElem?_getD, List.getElem?_replicate]
  split <;> rfl

theorem AddInv.start (a b : List Nat) (n : Nat) : AddInv a b (zeros n) 0 0 := ⟨zeros_dig n, by simp [ofD]⟩

theorem AddInv.done {a b cs : List Nat} {c : Int} {L : Nat} (h : AddInv a b cs L c) (hL : a.length = L) (hl : b.length ≤ L) (hc : cs.length = L + 1) (h0 : 0 ≤ c) (h1 : c ≤ 1) :
    AllDig (cs.set L c.toNat) ∧ ofD (cs.set L c.toNat) = ofD a + ofD b := by
  subst hL
  refine ⟨h.1.set_ _ (by omega), ?_⟩
  have e : cs.set a.length c.toNat = (cs.set a.length c.toNat).take (a.length + 1) := by rw [List.take_of_length_le (by simp; omega)]
  rw [e, ofD_take_succ, take_set_self, getD_set_self _ (by omega)]
  have h2 := h.2
  rw [List.take_length, List.take_of_length_le hl] at h2
  have h3 : ((c.toNat : Nat) : Int) = c := Int.toNat_of_nonneg h0
  rw [← h3] at h2
  exact_mod_cast h2

/-- The first i columns of zs - ys are done; q is borrowed. -/
def SubInv (zs ys ss : List Nat) (i : Nat) (q : Int) : Prop :=
  AllDig ss ∧ ss.length = zs.length ∧ ((ofD ss : Nat) : Int) + ((ofD (ys.take i) : Nat) : Int) = ((ofD zs : Nat) : Int) + ((10 ^ i : Nat) : Int) * q ∧ ∀ j, i ≤ j → ss.getD j 0 = zs.getD j 0

theorem SubInv.start {zs ys : List Nat} (h : AllDig zs) : SubInv zs ys zs 0 0 := ⟨h, rfl, by simp [ofD], fun _ _ => rfl⟩

theorem ofD_set {cs : List Nat} {i : Nat} (d : Nat) (h : i < cs.length) : ((ofD (cs.set i d) : Nat) : Int) = ((ofD cs : Nat) : Int) + ((10 ^ i : Nat) : Int) * ((d : Int) - dg cs i) := by
  have e1 : cs = cs.take i ++ (cs[i] :: cs.drop (i + 1)) := by simp
  have e2 : cs.set i d = cs.take i ++ (d :: cs.drop (i + 1)) := List.set_eq_take_append_cons_drop .. |>.trans (if_pos h)
  have hg : dg cs i = cs[i] := by unfold dg; rw [List.getD_eq_getElem?_getD, List.getElem?_eq_getElem h]; rfl
  have v1 : ofD cs = ofD (cs.take i) + 10 ^ i * (cs[i] + 10 * ofD (cs.drop (i + 1))) := by
    conv => lhs; rw [e1]
    rw [ofD_append, List.length_take, Nat.min_eq_left (by omega), ofD]
  rw [hg, e2, ofD_append, List.length_take, Nat.min_eq_left (by omega), ofD, v1]
  simp only [Int.natCast_add, Int.natCast_mul, Int.mul_add, Int.mul_sub]
  omega

theorem SubInv.step {zs ys ss : List Nat} {i : Nat} {q q' : Int} {d : Nat} (h : SubInv zs ys ss i q) (hi : i < zs.length) (hd : d < 10) (e : (d : Int) = dg ss i + 10 * q' - (q + dg ys i)) : SubInv zs ys (ss.set i d) (i + 1) q' := by
  obtain ⟨h1, h2, h3, h4⟩ := h
  refine ⟨h1.set_ i hd, by simpa using h2, ?_, fun j hj => by rw [getD_set_ne _ (by omega)]; exact h4 j (by omega)⟩
  rw [ofD_set d (by omega), ofD_take_succ, e]
  have e2 : ((ys.getD i 0 : Nat) : Int) = dg ys i := rfl
  simp only [Int.natCast_add, Int.natCast_mul, Nat.pow_succ, e2, Int.mul_add, Int.mul_sub] at h3 ⊢
  have e3 : ((10 ^ i : Nat) : Int) * ((10 : Nat) : Int) * q' = ((10 ^ i : Nat) : Int) * (10 * q') := by rw [Int.mul_assoc]; rfl
  rw [e3]
  omega

theorem SubInv.done {zs ys ss : List Nat} {i : Nat} {q : Int} (h : SubInv zs ys ss i q) (hi : ys.length ≤ i) (hq : q = 0) : AllDig ss ∧ ss.length = zs.length ∧ ofD ss + ofD ys = ofD zs := by
  obtain ⟨h1, h2, h3, _⟩ := h
  subst hq
  rw [List.take_of_length_le hi] at h3
  exact ⟨h1, h2, by omega⟩
theorem SubInv.none_left {zs ys ss : List Nat} {i : Nat} {q : Int} (h : SubInv zs ys ss i q) (hi : ys.length ≤ i) (hl : i = zs.length) (hle : ofD ys ≤ ofD zs) (h0 : 0 ≤ q) (h1 : q ≤ 1) : q = 0 := by
  obtain ⟨g1, g2, g3, _⟩ := h
  rw [List.take_of_length_le hi] at g3
  have := ofD_lt g1
  rw [g2, ← hl] at this
  rcases (show q = 0 ∨ q = 1 by omega) with e | e
  · exact e
  · subst e; omega

/-- The first i rows of a * b are done, and the first j columns of the next; q is carried. -/
def MulInv (N : Nat) (a b cs : List Nat) (i j : Nat) (q : Int) : Prop :=
  AllDig cs ∧ cs.length = N ∧ ((ofD cs : Nat) : Int) + ((10 ^ (i + j) : Nat) : Int) * q = ((ofD (a.take i) * ofD b : Nat) : Int) + ((10 ^ i * ofD (b.take j) : Nat) : Int) * dg a i ∧ ∀ t, i + b.length ≤ t → cs.getD t 0 = 0

theorem MulInv.start (N : Nat) (a b : List Nat) : MulInv N a b (zeros N) 0 0 0 := by
  refine ⟨zeros_dig _, zeros_length _, ?_, fun t _ => zeros_get _ _⟩
  have : ∀ n, ofD (zeros n) = 0 := by
    intro n
    induction n with
    | zero => rfl
    | succ n ih => unfold zeros at *; rw [List.replicate_succ, ofD, ih]
  rw [this]
  simp [ofD]

theorem mul_column {V P X Y T q t c x y : Int} (h : V + P * q = X + Y * x) (ht : t = c + x * y + q) (hT : T = P) : V + P * (t % 10 - c) + P * 10 * (t / 10) = X + (Y + T * y) * x := by
  subst hT
  have h1 : t % 10 + 10 * (t / 10) = t := Int.emod_add_mul_ediv t 10
  have h2 : T * (t % 10 - c) + T * 10 * (t / 10) = T * (x * y) + T * q := by
    rw [Int.mul_assoc, ← Int.mul_add, ← Int.mul_add]
    congr 1
    omega
  have h3 : (Y + T * y) * x = Y * x + T * (x * y) := by
    rw [Int.add_mul, Int.mul_assoc, Int.mul_comm y x]
  omega

theorem MulInv.step {N : Nat} {a b cs : List Nat} {i j : Nat} {q : Int} (h : MulInv N a b cs i j q) (hN : a.length + b.length ≤ N) (hi : i < a.length) (hj : j < b.length) (h0 : 0 ≤ q) (hx : 0 ≤ dg a i * dg b j) :
    MulInv N a b (cs.set (i + j) ((dg cs (i + j) + dg a i * dg b j + q) % 10).toNat) i (j + 1) ((dg cs (i + j) + dg a i * dg b j + q) / 10) := by
  obtain ⟨h1, h2, h3, h4⟩ := h
  have hc := dg_nonneg cs (i + j)
  have e : ((((dg cs (i + j) + dg a i * dg b j + q) % 10).toNat : Nat) : Int) = (dg cs (i + j) + dg a i * dg b j + q) % 10 := Int.toNat_of_nonneg (Int.emod_nonneg _ (by decide))
  refine ⟨h1.set_ _ (by omega), by simpa using h2, ?_, fun t ht => by rw [getD_set_ne _ (by omega)]; exact h4 t ht⟩
  rw [ofD_set _ (by omega), e, ofD_take_succ b j]
  simp only [Int.natCast_add, Int.natCast_mul, Nat.pow_succ, Nat.pow_add, Nat.mul_add, ← Nat.add_assoc] at h3 ⊢
  have ed : ((b.getD j 0 : Nat) : Int) = dg b j := rfl
  rw [ed]
  have key := mul_column (t := dg cs (i + j) + dg a i * dg b j + q) (y := dg b j) (T := ((10 ^ i : Nat) : Int) * ((10 ^ j : Nat) : Int)) h3 rfl rfl
  rw [← Int.mul_assoc]
  exact key

theorem MulInv.row {N : Nat} {a b cs : List Nat} {i : Nat} {q : Int} {lb : Nat} (h : MulInv N a b cs i lb q) (hN : a.length + b.length ≤ N) (hlb : b.length = lb) (hi : i < a.length) (h0 : 0 ≤ q) (h1 : q < 10) :
    MulInv N a b (cs.set (i + lb) q.toNat) (i + 1) 0 0 := by
  subst hlb
  obtain ⟨g1, g2, g3, g4⟩ := h
  have e : ((q.toNat : Nat) : Int) = q := Int.toNat_of_nonneg h0
  have ez : dg cs (i + b.length) = 0 := by unfold dg; rw [g4 _ (Nat.le_refl _)]; rfl
  refine ⟨g1.set_ _ (by omega), by simpa using g2, ?_, fun t ht => by rw [getD_set_ne _ (by omega)]; exact g4 t (by omega)⟩
  rw [ofD_set _ (by omega), e, ez, Int.sub_zero, g3, List.take_length, ofD_take_succ a i]
  simp only [List.take_zero, ofD, Nat.mul_zero, Int.mul_zero, Int.natCast_zero, Int.zero_mul, Int.add_zero, Nat.add_mul, Int.natCast_add, Int.natCast_mul]
  have ed : ((a.getD i 0 : Nat) : Int) = dg a i := rfl
  rw [ed, Int.mul_assoc, Int.mul_assoc, Int.mul_comm (dg a i)]

theorem MulInv.done {N : Nat} {a b cs : List Nat} {q : Int} {la : Nat} (h : MulInv N a b cs la 0 q) (hla : a.length = la) (hq : q = 0) : AllDig cs ∧ ofD cs = ofD a * ofD b := by
  subst hla hq
  obtain ⟨g1, g2, g3, g4⟩ := h
  refine ⟨g1, ?_⟩
  rw [List.take_length] at g3
  simp only [List.take_zero, ofD, Nat.mul_zero, Int.mul_zero, Int.natCast_zero, Int.zero_mul, Int.add_zero] at g3
  exact_mod_cast g3

end Go.Proofs.YtfnkmgipjemkdaaDoor
