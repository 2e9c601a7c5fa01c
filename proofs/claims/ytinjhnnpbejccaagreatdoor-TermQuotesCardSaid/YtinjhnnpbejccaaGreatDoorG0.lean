/- Plain mathematics of decimals: the digits of a natural number, the least significant first, the text of an integer, and what a text stands for. No program is named here. -/
namespace Go.Proofs.YtinjhnnpbejccaaGreatDoor
def ofD : List Nat → Nat
 | [] => 0
 | d :: l => d + 10 * ofD l

def AllDig (l : List Nat) : Prop := ∀ d ∈ l, d < 10

def digsF : Nat → Nat → List Nat
 | 0, _ => []
 | f + 1, n => if n = 0 then [] else (n % 10) :: digsF f (n / 10)
def digs (n : Nat) : List Nat := digsF n n
def Trimmed (l : List Nat) : Prop := ∀ h : l ≠ [], l.getLast h ≠ 0

theorem ofD_append (a b : List Nat) : ofD (a ++ b) = ofD a + 10 ^ a.length * ofD b := by
 induction a with
 | nil => simp [ofD]
 | cons d l ih =>
  simp only [List.cons_append, ofD, ih, List.length_cons, Nat.pow_succ]
  rw [Nat.mul_add, Nat.mul_comm (10 ^ l.length) 10, Nat.mul_assoc]
  omega

theorem AllDig.append {a b : List Nat} (ha : AllDig a) (hb : AllDig b) : AllDig (a ++ b) := by
 intro d hd
 rcases List.mem_append.1 hd with h | h
 · exact ha d h
 · exact hb d h
theorem AllDig.right {a b : List Nat} (h : AllDig (a ++ b)) : AllDig b := fun d hd => h d (List.mem_append_right _ hd)
theorem AllDig.take {a : List Nat} (h : AllDig a) (n : Nat) : AllDig (a.take n) := fun d hd => h d (List.mem_of_mem_take hd)
theorem AllDig.drop {a : List Nat} (h : AllDig a) (n : Nat) : AllDig (a.drop n) := fun d hd => h d (List.mem_of_mem_drop hd)
theorem AllDig.getD {a : List Nat} (h : AllDig a) (n : Nat) : a.getD n 0 < 10 := by
 rw [List.getD_eq_getElem?_getD]
 rcases Nat.lt_or_ge n a.length with hl | hl
 · rw [List.getElem?_eq_getElem hl]; exact h _ (List.getElem_mem hl)
 · rw [List.getElem?_eq_none hl]; decide
theorem AllDig.one {d : Nat} (h : d < 10) : AllDig [d] := by
 intro x hx
 rw [List.mem_singleton] at hx
 omega

theorem ofD_lt {l : List Nat} (h : AllDig l) : ofD l < 10 ^ l.length := by
 induction l with
 | nil => simp [ofD]
 | cons d l ih =>
  have h1 := h d (by simp)
  have h2 := ih (fun x hx => h x (by simp [hx]))
  simp only [ofD, List.length_cons, Nat.pow_succ]
  omega

theorem digsF_zero (f : Nat) : digsF f 0 = [] := by cases f <;> simp [digsF]

theorem digsF_enough (f g n : Nat) (hf : n ≤ f) (hg : n ≤ g) : digsF f n = digsF g n := by
 induction f generalizing g n with
 | zero =>
  have : n = 0 := by omega
  subst this
  rw [digsF_zero, digsF_zero]
 | succ f ih =>
  cases g with
  | zero =>
   have : n = 0 := by omega
   subst this
   rw [digsF_zero, digsF_zero]
  | succ g =>
   simp only [digsF]
   by_cases h : n = 0
   · rw [if_pos h, if_pos h]
   · rw [if_neg h, if_neg h, ih g (n / 10) (by omega) (by omega)]

theorem digs_zero : digs 0 = [] := rfl
theorem digs_pos {n : Nat} (h : n ≠ 0) : digs n = (n % 10) :: digs (n / 10) := by
 unfold digs
 cases n with
 | zero => exact absurd rfl h
 | succ n =>
  simp only [digsF]
  rw [if_neg h, digsF_enough n ((n + 1) / 10) ((n + 1) / 10) (by omega) (by omega)]

theorem digs_ind {P : Nat → Prop} (h0 : P 0) (hs : ∀ n, n ≠ 0 → P (n / 10) → P n) (n : Nat) : P n := by
 induction n using Nat.strongRecOn with
 | ind n ih =>
  by_cases h : n = 0
  · subst h; exact h0
  · exact hs n h (ih _ (by omega))

theorem ofD_digs (n : Nat) : ofD (digs n) = n := by
 refine digs_ind (P := fun n => ofD (digs n) = n) rfl ?_ n
 intro n hn ih
 rw [digs_pos hn, ofD, ih]
 omega

theorem allDig_digs (n : Nat) : AllDig (digs n) := by
 refine digs_ind (P := fun n => AllDig (digs n)) (fun d hd => by rw [digs_zero] at hd; cases hd) ?_ n
 intro n hn ih
 rw [digs_pos hn]
 intro d hd
 rcases List.mem_cons.1 hd with h | h
 · omega
 · exact ih d h

theorem digs_ne_nil {n : Nat} (h : n ≠ 0) : digs n ≠ [] := by rw [digs_pos h]; simp
theorem trimmed_digs (n : Nat) : Trimmed (digs n) := by
 refine digs_ind (P := fun n => Trimmed (digs n)) (fun h => absurd digs_zero h) ?_ n
 intro n hn ih h
 by_cases h0 : n / 10 = 0
 · have e : digs n = [n % 10] := by rw [digs_pos hn, h0, digs_zero]
   simp only [e, List.getLast_singleton]
   omega
 · have e : digs n = (n % 10) :: digs (n / 10) := digs_pos hn
   simp only [e]
   rw [List.getLast_cons (digs_ne_nil h0)]
   exact ih _

theorem digs_ofD {l : List Nat} (ha : AllDig l) (ht : Trimmed l) : digs (ofD l) = l := by
 induction l with
 | nil => rfl
 | cons d l ih =>
  have hd := ha d (by simp)
  have hl : AllDig l := fun x hx => ha x (by simp [hx])
  by_cases hn : l = []
  · subst hn
    have h0 : d ≠ 0 := by
     have := ht (by simp)
     simpa using this
    have e : ofD [d] = d := by simp [ofD]
    rw [e, digs_pos h0, Nat.mod_eq_of_lt hd, Nat.div_eq_of_lt hd, digs_zero]
  · have htl : Trimmed l := by
     intro h
     have := ht (by simp)
     rwa [List.getLast_cons h] at this
    have il := ih hl htl
    have hp : ofD l ≠ 0 := by
     intro h0
     rw [h0, digs_zero] at il
     exact hn il.symm
    have hnz : ofD (d :: l) ≠ 0 := by simp only [ofD]; omega
    rw [digs_pos hnz]
    simp only [ofD]
    rw [show (d + 10 * ofD l) % 10 = d from by omega, show (d + 10 * ofD l) / 10 = ofD l from by omega, il]

theorem ofD_snoc_zero (l : List Nat) : ofD (l ++ [0]) = ofD l := by rw [ofD_append]; simp [ofD]

theorem trimmed_snoc {l : List Nat} {d : Nat} (h : d ≠ 0) : Trimmed (l ++ [d]) := by
 intro _
 rw [List.getLast_append_of_ne_nil _ (by simp)]
 simpa using h

theorem trimmed_nil : Trimmed [] := fun h => absurd rfl h
theorem digs_of_take {l : List Nat} (ha : AllDig l) (n : Nat) (hn : n ≤ l.length) (hz : ∀ j, n ≤ j → j < l.length → l.getD j 0 = 0) (ht : n = 0 ∨ l.getD (n - 1) 0 ≠ 0) :
 l.take n = digs (ofD l) := by
 have hsplit : ∀ m, ofD (l.take m) = ofD l ∨ ¬ (n ≤ m) := by
  intro m
  by_cases hm : n ≤ m
  · left
    have key : ∀ k, ∀ m', n ≤ m' → l.length - m' = k → ofD (l.take m') = ofD l := by
     intro k
     induction k with
     | zero =>
      intro m' _ hk
      rw [List.take_of_length_le (by omega)]
     | succ k ih =>
      intro m' hm' hk
      have hlt : m' < l.length := by omega
      have h1 := ih (m' + 1) (by omega) (by omega)
      rw [List.take_succ_eq_append_getElem hlt] at h1
      have hg : l[m'] = 0 := by
       have := hz m' hm' hlt
       rw [List.getD_eq_getElem?_getD, List.getElem?_eq_getElem hlt] at this
       simpa using this
      rw [hg, ofD_snoc_zero] at h1
      exact h1
    exact key _ m hm rfl
  · right; exact hm
 have hv : ofD (l.take n) = ofD l := by
  rcases hsplit n with h | h
  · exact h
  · exact absurd (Nat.le_refl n) h
 rw [← hv]
 symm
 apply digs_ofD (ha.take n)
 rcases ht with h0 | h1
 · subst h0; simp only [List.take_zero]; exact trimmed_nil
 · by_cases h0 : n = 0
   · subst h0; simp only [List.take_zero]; exact trimmed_nil
   · have hlt : n - 1 < l.length := by omega
     have e : l.take n = l.take (n - 1) ++ [l[n - 1]] := by
      rw [← List.take_succ_eq_append_getElem hlt, Nat.sub_add_cancel (by omega)]
     rw [e]
     apply trimmed_snoc
     rw [List.getD_eq_getElem?_getD, List.getElem?_eq_getElem hlt] at h1
     simpa using h1

theorem digs_length_le {n k : Nat} (h : n < 10 ^ k) : (digs n).length ≤ k := by
 induction k generalizing n with
 | zero =>
  have : n = 0 := by simp at h; omega
  subst this
  simp [digs_zero]
 | succ k ih =>
  by_cases h0 : n = 0
  · subst h0; simp [digs_zero]
  · rw [digs_pos h0, List.length_cons]
    have := ih (n := n / 10) (by rw [Nat.pow_succ] at h; omega)
    omega
theorem lt_pow_digs (n : Nat) : n < 10 ^ (digs n).length := by
 have := ofD_lt (allDig_digs n)
 rwa [ofD_digs] at this
theorem digs_length_mono {n m : Nat} (h : n ≤ m) : (digs n).length ≤ (digs m).length :=
 digs_length_le (Nat.lt_of_le_of_lt h (lt_pow_digs m))
theorem lt_of_digs_length_lt {n m : Nat} (h : (digs n).length < (digs m).length) : n < m := by
 rcases Nat.lt_or_ge n m with h1 | h1
 · exact h1
 · have := digs_length_mono h1; omega
theorem digs_inj {n m : Nat} (h : digs n = digs m) : n = m := by
 have := congrArg ofD h
 rwa [ofD_digs, ofD_digs] at this
theorem ofD_lt_of_top {a b : List Nat} (ha : AllDig a) (i : Nat) (hl : a.length = b.length) (hi : i < a.length) (he : a.drop (i + 1) = b.drop (i + 1)) (hlt : a.getD i 0 < b.getD i 0) : ofD a < ofD b := by
 have hib : i < b.length := by omega
 have ea : a = a.take i ++ (a[i] :: a.drop (i + 1)) := by simp
 have eb : b = b.take i ++ (b[i] :: b.drop (i + 1)) := by simp
 have h1 := ofD_lt (ha.take i)
 rw [List.length_take, Nat.min_eq_left (by omega)] at h1
 have h2 : a[i] < b[i] := by
  rw [List.getD_eq_getElem?_getD, List.getElem?_eq_getElem hi, List.getD_eq_getElem?_getD, List.getElem?_eq_getElem hib] at hlt
  simpa using hlt
 have va : ofD a = ofD (a.take i) + 10 ^ i * (a[i] + 10 * ofD (a.drop (i + 1))) := by
  conv => lhs; rw [ea]
  rw [ofD_append, List.length_take, Nat.min_eq_left (by omega), ofD]
 have vb : ofD b = ofD (b.take i) + 10 ^ i * (b[i] + 10 * ofD (b.drop (i + 1))) := by
  conv => lhs; rw [eb]
  rw [ofD_append, List.length_take, Nat.min_eq_left (by omega), ofD]
 rw [va, vb, he]
 have h3 : 10 ^ i * (a[i] + 10 * ofD (b.drop (i + 1))) + 10 ^ i ≤ 10 ^ i * (b[i] + 10 * ofD (b.drop (i + 1))) := by
  have := Nat.mul_le_mul_left (10 ^ i) (show a[i] + 10 * ofD (b.drop (i + 1)) + 1 ≤ b[i] + 10 * ofD (b.drop (i + 1)) from by omega)
  rwa [Nat.mul_add _ _ 1, Nat.mul_one] at this
 omega
def ordN (a b : Nat) : Int := if a < b then -1 else if b < a then 1 else 0
def ordI (a b : Int) : Int := if a < b then -1 else if b < a then 1 else 0
theorem ordN_lt {a b : Nat} (h : a < b) : ordN a b = -1 := if_pos h
theorem ordN_gt {a b : Nat} (h : b < a) : ordN a b = 1 := by unfold ordN; rw [if_neg (by omega), if_pos h]
theorem ordN_eq {a b : Nat} (h : a = b) : ordN a b = 0 := by unfold ordN; rw [if_neg (by omega), if_neg (by omega)]

end Go.Proofs.YtinjhnnpbejccaaGreatDoor
