/- Plain mathematics of long division, column by column. No program is named here. -/
import Derived.Test.YtfnkmgipjemkdaaDoorArith
namespace Go.Proofs.YtfnkmgipjemkdaaDoor
open Go Go.RowKit
set_option linter.unusedVariables false

theorem ofD_split (rs : List Nat) (S : Nat) (hS : S ≤ rs.length) : ofD rs = ofD (rs.take S) + 10 ^ S * ofD (rs.drop S) := by
  conv => lhs; rw [← List.take_append_drop S rs]
  rw [ofD_append, List.length_take, Nat.min_eq_left hS]
theorem ofD_drop {rs : List Nat} (h : AllDig rs) (S : Nat) (hS : S ≤ rs.length) : ofD (rs.drop S) = ofD rs / 10 ^ S := by
  have h1 := ofD_split rs S hS
  have h2 := ofD_lt (h.take S)
  rw [List.length_take, Nat.min_eq_left hS] at h2
  rw [h1, Nat.add_mul_div_left _ _ (Nat.pow_pos (by decide)), Nat.div_eq_of_lt h2, Nat.zero_add]
theorem ofD_take_of_lt {xs : List Nat} {k : Nat} (h : ofD xs < 10 ^ k) : ofD (xs.take k) = ofD xs := by
  rcases Nat.lt_or_ge k xs.length with hk | hk
  · have h1 := ofD_split xs k (by omega)
    have h0 : ofD (xs.drop k) = 0 := by
      rcases Nat.eq_zero_or_pos (ofD (xs.drop k)) with h0 | h0
      · exact h0
      · have := Nat.mul_le_mul_left (10 ^ k) h0
        omega
    rw [h0, Nat.mul_zero, Nat.add_zero] at h1
    exact h1.symm
  · rw [List.take_of_length_le hk]

/-- Digits that are as many as their number has are that number's digits. -/
theorem digs_of_len {xs : List Nat} (h : AllDig xs) (hl : xs.length = (digs (ofD xs)).length) : digs (ofD xs) = xs := by
  obtain ⟨n, hn, e⟩ := trim_head h
  have h1 := congrArg List.length e
  rw [List.length_take, Nat.min_eq_left hn] at h1
  rw [← e, List.take_of_length_le (by omega)]

/-- What stands while a quotient is made: the remainder's digits rs, the quotient's digits qs, zeros below place s. -/
structure DivS (n m : Nat) (qs rs : List Nat) (L a s : Nat) : Prop where
  dq : AllDig qs
  lq : qs.length = L
  dr : AllDig rs
  lr : rs.length = a
  val : ofD rs + ofD qs * m = n
  zero : ∀ j, j < s → qs.getD j 0 = 0

theorem ofD_zeros (n : Nat) : ofD (zeros n) = 0 := by
  induction n with
  | zero => rfl
  | succ n ih => unfold zeros at *; rw [List.replicate_succ, ofD, ih]

theorem pow_digs_le {m : Nat} (h : m ≠ 0) : 10 ^ ((digs m).length - 1) ≤ m := by
  rcases Nat.lt_or_ge m (10 ^ ((digs m).length - 1)) with h1 | h1
  · have := digs_length_le h1
    have := digs_ne_nil h
    have := List.length_pos_iff.2 this
    omega
  · exact h1

theorem DivS.start (n m : Nat) {a b : Nat} (ha : LenIs n a) (hb : LenIs m b) (hm : m ≠ 0) (hba : b ≤ a) : DivS n m (zeros (a - b + 1)) (digs n) (a - b + 1) a (a - b + 1) ∧ ofD (digs n) < 10 ^ (a - b + 1) * m := by
  refine ⟨⟨zeros_dig _, zeros_length _, allDig_digs n, ha, by rw [ofD_zeros, ofD_digs]; omega, fun j _ => zeros_get _ _⟩, ?_⟩
  have h1 := lt_pow_digs n
  have h2 := pow_digs_le hm
  unfold LenIs at ha hb
  have hbp : 0 < b := by rw [← hb]; exact List.length_pos_iff.2 (digs_ne_nil hm)
  rw [ha] at h1
  rw [hb] at h2
  rw [ofD_digs]
  refine Nat.lt_of_lt_of_le h1 ?_
  have h3 := Nat.mul_le_mul_left (10 ^ (a - b + 1)) h2
  rwa [← Nat.pow_add, show a - b + 1 + (b - 1) = a from by omega] at h3

/-- While the digit at place S is made. -/
structure DivT (n m : Nat) (qs rs : List Nat) (L a S : Nat) : Prop where
  base : DivS n m qs rs L a S
  room : ofD rs + 10 ^ S * (qs.getD S 0 * m) < 10 ^ S * (10 * m)

theorem DivS.enter {n m : Nat} {qs rs : List Nat} {L a S : Nat} (h : DivS n m qs rs L a (S + 1)) (hr : ofD rs < 10 ^ (S + 1) * m) : DivT n m qs rs L a S := by
  refine ⟨⟨h.dq, h.lq, h.dr, h.lr, h.val, fun j hj => h.zero j (by omega)⟩, ?_⟩
  rw [h.zero S (by omega), Nat.zero_mul, Nat.mul_zero, Nat.add_zero, ← Nat.mul_assoc, ← Nat.pow_succ]
  exact hr

/-- The rest at place S. -/
def restAt (rs : List Nat) (S : Nat) : Nat := ofD rs / 10 ^ S

theorem DivT.rest_lt {n m : Nat} {qs rs : List Nat} {L a S : Nat} (h : DivT n m qs rs L a S) : restAt rs S + qs.getD S 0 * m < 10 * m := by
  have h1 := h.room
  have h2 : ofD rs < 10 ^ S * (10 * m - qs.getD S 0 * m) := by
    rw [Nat.mul_sub]; omega
  have h3 := Nat.div_lt_of_lt_mul h2
  unfold restAt
  generalize ofD rs / 10 ^ S = x at h3 ⊢
  generalize qs.getD S 0 * m = y at h3 ⊢
  omega

/-- The part of the remainder from place S to place hi. -/
def seg (rs : List Nat) (S hi : Nat) : List Nat := (rs.take hi).drop S
theorem seg_dig {rs : List Nat} (h : AllDig rs) (S hi : Nat) : AllDig (seg rs S hi) := (h.take hi).drop S
theorem seg_length (rs : List Nat) (S hi : Nat) (h : hi ≤ rs.length) : (seg rs S hi).length = hi - S := by
  unfold seg; rw [List.length_drop, List.length_take, Nat.min_eq_left h]
theorem seg_get (rs : List Nat) (S hi j : Nat) (hj : S + j < hi) : dg (seg rs S hi) j = dg rs (S + j) := by
  unfold seg dg
  rw [List.getD_eq_getElem?_getD, List.getElem?_drop, List.getElem?_take, if_pos hj, List.getD_eq_getElem?_getD]

theorem DivT.seg_val {n m : Nat} {qs rs : List Nat} {L a S b hi : Nat} (h : DivT n m qs rs L a S) (hb : LenIs m b) (hSa : S ≤ hi) (hha : hi ≤ a) (hhi : hi = S + b + 1 ∨ hi = a) : ofD (seg rs S hi) = restAt rs S := by
  have hd := ofD_drop h.base.dr S (by rw [h.base.lr]; omega)
  have e : seg rs S hi = (rs.drop S).take (hi - S) := by unfold seg; rw [List.drop_take]
  unfold restAt
  rw [e, ← hd]
  rcases hhi with e1 | e1
  · apply ofD_take_of_lt
    rw [hd]
    have h1 := h.rest_lt
    unfold restAt at h1
    have h2 := lt_pow_digs m
    unfold LenIs at hb
    rw [hb] at h2
    have h3 : hi - S = b + 1 := by omega
    rw [h3, Nat.pow_succ]
    omega
  · rw [List.take_of_length_le (by rw [List.length_drop, h.base.lr]; omega)]

/-- The remainder in three parts: below S, the rest's digits, above. -/
theorem DivT.parts {n m : Nat} {qs rs : List Nat} {L a S : Nat} (h : DivT n m qs rs L a S) (hS : S ≤ a) : ∃ zs post, rs = rs.take S ++ zs ++ post ∧ zs.length = (digs (restAt rs S)).length ∧ AllDig zs ∧ ofD zs = restAt rs S ∧ ofD post = 0 := by
  have hd := ofD_drop h.base.dr S (by rw [h.base.lr]; omega)
  have hlt : ofD (rs.drop S) < 10 ^ (digs (restAt rs S)).length := by rw [hd]; exact lt_pow_digs _
  have hv := ofD_take_of_lt hlt
  have hlen : (digs (restAt rs S)).length ≤ (rs.drop S).length := by
    have := ofD_lt (h.base.dr.drop S)
    rw [hd] at this
    exact digs_length_le this
  refine ⟨(rs.drop S).take (digs (restAt rs S)).length, (rs.drop S).drop (digs (restAt rs S)).length, ?_, ?_, (h.base.dr.drop S).take _, by rw [hv, hd]; rfl, ?_⟩
  · rw [List.append_assoc, List.take_append_drop, List.take_append_drop]
  · rw [List.length_take, Nat.min_eq_left hlen]
  · have h1 := ofD_split (rs.drop S) (digs (restAt rs S)).length hlen
    rw [hv] at h1
    have h2 : 10 ^ (digs (restAt rs S)).length * ofD ((rs.drop S).drop (digs (restAt rs S)).length) = 0 := by omega
    rcases Nat.mul_eq_zero.1 h2 with h3 | h3
    · exact absurd h3 (Nat.pos_iff_ne_zero.1 (Nat.pow_pos (by decide)))
    · exact h3

theorem DivT.step {n m : Nat} {qs rs zs post ss : List Nat} {L a S : Nat} (h : DivT n m qs rs L a S) (hS : S ≤ a) (hSL : S < L) (e : rs = rs.take S ++ zs ++ post) (hz : ofD zs = restAt rs S) (hp : ofD post = 0) (hl : ss.length = zs.length) (hds : AllDig ss) (hv : ofD ss + m = ofD zs) (hm : 0 < m) :
    DivT n m (qs.set S (qs.getD S 0 + 1)) (rs.take S ++ ss ++ post) L a S ∧ restAt (rs.take S ++ ss ++ post) S = restAt rs S - m ∧ ofD ss = restAt rs S - m ∧ qs.getD S 0 + 1 < 10 := by
  have hlen : (rs.take S).length = S := by rw [List.length_take, Nat.min_eq_left (by rw [h.base.lr]; exact hS)]
  have e1 : ofD rs = ofD (rs.take S) + 10 ^ S * ofD zs := by
    conv => lhs; rw [e]
    rw [List.append_assoc, ofD_append, hlen, ofD_append, hp, Nat.mul_zero, Nat.add_zero]
  have e2 : ofD (rs.take S ++ ss ++ post) = ofD (rs.take S) + 10 ^ S * ofD ss := by
    rw [List.append_assoc, ofD_append, hlen, ofD_append, hp, Nat.mul_zero, Nat.add_zero]
  have hdig : AllDig (rs.take S ++ ss ++ post) := by
    have h1 := h.base.dr
    rw [e] at h1
    exact ((h.base.dr.take S).append hds).append h1.right
  have e3 : ofD rs = ofD (rs.take S ++ ss ++ post) + 10 ^ S * m := by
    rw [e1, e2, ← hv, Nat.mul_add, Nat.add_assoc]
  have hrest := h.rest_lt
  have ht : qs.getD S 0 + 1 < 10 := by
    rcases Nat.lt_or_ge (qs.getD S 0 + 1) 10 with h1 | h1
    · exact h1
    · have := Nat.mul_le_mul_right m h1
      rw [Nat.add_mul, Nat.one_mul] at this
      omega
  have hq : ofD (qs.set S (qs.getD S 0 + 1)) = ofD qs + 10 ^ S := by
    have h1 := ofD_set (qs.getD S 0 + 1) (show S < qs.length by rw [h.base.lq]; exact hSL)
    have h2 : ((qs.getD S 0 + 1 : Nat) : Int) - dg qs S = 1 := by unfold dg; omega
    rw [h2, Int.mul_one] at h1
    exact_mod_cast h1
  have hlow := ofD_lt (h.base.dr.take S)
  rw [hlen] at hlow
  refine ⟨⟨⟨h.base.dq.set_ _ ht, by rw [List.length_set]; exact h.base.lq, hdig, ?_, ?_, ?_⟩, ?_⟩, ?_, by omega, ht⟩
  · have h1 := congrArg List.length e
    rw [h.base.lr] at h1
    simp only [List.length_append] at h1 ⊢
    omega
  · have h1 := h.base.val
    rw [hq, Nat.add_mul]
    omega
  · intro j hj
    rw [getD_set_ne _ (by omega)]
    exact h.base.zero j hj
  · rw [getD_set_self _ (by rw [h.base.lq]; exact hSL), Nat.add_mul, Nat.one_mul, Nat.mul_add]
    have := h.room
    omega
  · unfold restAt
    rw [e2, Nat.add_mul_div_left _ _ (Nat.pow_pos (by decide)), Nat.div_eq_of_lt hlow, Nat.zero_add]
    unfold restAt at hz
    omega

theorem DivT.leave {n m : Nat} {qs rs : List Nat} {L a S : Nat} (h : DivT n m qs rs L a S) (hlt : restAt rs S < m) : DivS n m qs rs L a S ∧ ofD rs < 10 ^ S * m := by
  refine ⟨h.base, ?_⟩
  unfold restAt at hlt
  have h1 : 0 < 10 ^ S := Nat.pow_pos (by decide)
  exact (Nat.div_lt_iff_lt_mul h1).1 hlt |> fun h2 => by rwa [Nat.mul_comm] at h2

theorem DivS.done {n m : Nat} {qs rs : List Nat} {L a : Nat} (h : DivS n m qs rs L a 0) (hlt : ofD rs < 10 ^ 0 * m) : ofD qs = n / m ∧ ofD rs = n % m := by
  rw [Nat.pow_zero, Nat.one_mul] at hlt
  have h1 := h.val
  have hm : 0 < m := by omega
  constructor
  · rw [← h1, Nat.add_mul_div_right _ _ hm, Nat.div_eq_of_lt hlt, Nat.zero_add]
  · rw [← h1, Nat.add_mul_mod_self_right, Nat.mod_eq_of_lt hlt]

theorem Row.seg_reads {w : World} {g : Nat} {e : TypeId} {k : IntKind} {rs : List Nat} {B : Nat} (h : Row w g e k rs) (hg : g < B) (S hi : Nat) (hl : hi ≤ rs.length) : Reads w B k (some ⟨g, S, none⟩) (seg rs S hi) :=
  h.reads_at hg S _ fun j hj => by
    rw [seg_length _ _ _ hl] at hj
    exact ⟨by omega, seg_get _ _ _ _ (by omega)⟩
theorem Row.mid_reads {w : World} {g : Nat} {e : TypeId} {k : IntKind} {pre ss post : List Nat} {B S : Nat} (h : Row w g e k (pre ++ ss ++ post)) (hg : g < B) (hS : pre.length = S) : Reads w B k (some ⟨g, S, none⟩) ss :=
  h.reads_at hg S _ fun j hj => by
    subst hS
    refine ⟨by simp only [List.length_append]; omega, ?_⟩
    unfold dg
    simp only [List.getD_eq_getElem?_getD]
    rw [List.append_assoc, List.getElem?_append_right (by omega), Nat.add_sub_cancel_left, List.getElem?_append_left hj]

end Go.Proofs.YtfnkmgipjemkdaaDoor
