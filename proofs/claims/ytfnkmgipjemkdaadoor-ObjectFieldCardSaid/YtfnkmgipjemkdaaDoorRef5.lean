/- The reference's long division. -/
import Derived.Test.YtfnkmgipjemkdaaDoorRef4
import Derived.Deep.LoopGhost
namespace Go.Proofs.YtfnkmgipjemkdaaDoor
open Go Go.RowKit
set_option linter.unusedVariables false

section
variable {P : Program} (w : World)
theorem run_append_of_nil (base : Nat) (t ty e : TypeId) (i : TypeInfo) (size : Nat) (ht : P.underlying t = some (.slice e)) (hi : P.info? e = some i)
    (v : Value) (n : Nat) (xs : List Value) (hown : w.ownsRow base e size v n xs) (c : Nat) : (Builtin.append_ #[t, t] ty #[v, .slice none 0 c]).run P w = .ok v w := by
  rcases hown.2 with ⟨rfl, rfl⟩ | ⟨g, cap, cur, rfl, _, _, hnc, _⟩
  · simp [Builtin.append_, run_underlying ht, sizeOf, typeInfo, hi, Builtin.lenOf, Builtin.firstCells]
  · simp [Builtin.append_, run_underlying ht, sizeOf, typeInfo, hi, Builtin.lenOf, Builtin.firstCells, hnc, storeCells]

theorem wpList_append_rd {ops : Array Oper} {rest : List Oper} {o : Oper} {a : Act} {Q : Exit → Act → World → Prop} (hgd : o.guard = none) (s x : Operand) (t : TypeId)
    (ho : o.op = .call { callee := .builtin .append, args := #[s, x], argTypes := #[t, t] })
    (base : Nat) (e : TypeId) (i : TypeInfo) (z : Value) (size bytes : Nat) (ht : P.underlying t = some (.slice e)) (hi : P.info? e = some i) (hz : i.zero = some z)
    (hsize : i.size = size) (hby : i.bytes = bytes) (hzs : z.cells.size = size) (hsz : 0 < size) (hs1 : size = 1)
    (v : Value) (n : Nat) (xs : List Value) (hs : a.eval s = v) (hown : w.ownsRow base e size v n xs)
    (B : Nat) (k : IntKind) (A : Option Addr) (m c : Nat) (ys : List Nat) (hx : a.eval x = .slice A m c) (hm : ys.length = m) (hr : Reads w B k A ys)
    (h63 : n + m ≤ maxLen) (hbytes : (n + m) * bytes ≤ 140737488355328) (hbase : base ≤ w.heap.size)
    (h : ∀ v' w', w'.ownsRow base e size v' (n + m) (xs ++ ys.map fun d : Nat => Value.int k (d : Int)) → w.grownBy w' v.ownBlock → wpList P ops Q rest (a.put o.dst v') w') : wpList P ops Q (o :: rest) a w := by
  cases A with
  | some ad =>
    exact wpList_append_own w hgd s x t ho base e i z size bytes ht hi hz hsize hby hzs hsz v n xs hs hown ad m c _ hx (by rw [List.length_map, hm, hs1, Nat.mul_one]) hr.cells (one_cells k ys) h63 hbytes hbase fun v' w' h1 h2 _ => h v' w' h1 h2
  | none =>
    have h0 : ys = [] := by
      cases ys with
      | nil => rfl
      | cons y l => obtain ⟨_, _, e, _⟩ := hr (by simp); cases e
    subst h0
    obtain rfl : m = 0 := hm.symm
    refine wpList_plain hgd fun K hK => ?_
    have hrun := run_append_of_nil (P := P) w base t o.type e i size ht hi v n xs hown c
    unfold Oper.wp execOp
    simp only [ho, resolve, invoke, builtin, Sem.run_bind, Sem.run_pure, Result.andThen_ok, List.map_toArray, List.map_cons, List.map_nil, hs, hx, hrun]
    exact hK _ _ (h v w (by simpa using hown) (World.grownBy.refl w _))
end

/-- What stands while the reference makes a quotient: the digits above place p are done. -/
structure OInv (n m : Nat) (qs : List Nat) (a p R : Nat) : Prop where
  dq : AllDig qs
  lq : qs.length = a
  zero : ∀ j, j < p → qs.getD j 0 = 0
  val : ofD (qs.drop p) * m + R = n / 10 ^ p

theorem OInv.start (n m a : Nat) (ha : LenIs n a) : OInv n m (zeros a) a a 0 := by
  refine ⟨zeros_dig _, zeros_length _, fun j _ => zeros_get _ _, ?_⟩
  rw [List.drop_eq_nil_of_le (by rw [zeros_length]; exact Nat.le_refl _)]
  have := lt_pow_digs n
  rw [show (digs n).length = a from ha] at this
  rw [Nat.div_eq_of_lt this]
  simp [ofD]
theorem drop_digit (n p : Nat) : n / 10 ^ p = (digs n).getD p 0 + 10 * (n / 10 ^ (p + 1)) := by
  have key : ∀ p n, (digs n).getD p 0 = n / 10 ^ p % 10 := by
    intro p
    induction p with
    | zero =>
      intro n
      by_cases h : n = 0
      · subst h; rfl
      · rw [digs_pos h]; simp
    | succ p ih =>
      intro n
      by_cases h : n = 0
      · subst h; simp [digs_zero]
      · rw [digs_pos h, List.getD_cons_succ, ih, Nat.pow_succ', Nat.div_div_eq_div_mul]
  rw [key, Nat.pow_succ, ← Nat.div_div_eq_div_mul]
  omega
theorem drop_cons (qs : List Nat) (p : Nat) (h : p < qs.length) : ofD (qs.drop p) = qs.getD p 0 + 10 * ofD (qs.drop (p + 1)) := by
  rw [List.drop_eq_getElem_cons h, ofD, List.getD_eq_getElem?_getD, List.getElem?_eq_getElem h]
  rfl

structure OIn (n m : Nat) (qs : List Nat) (a p R : Nat) : Prop where
  base : OInv n m qs a p R
  room : R + qs.getD p 0 * m < 10 * m
theorem OInv.enter {n m a p R : Nat} {qs : List Nat} (h : OInv n m qs a (p + 1) R) (hp : p < a) (hR : R < m) : OIn n m qs a p ((digs n).getD p 0 + 10 * R) := by
  have hz := h.zero p (by omega)
  have hd := (allDig_digs n).getD p
  refine ⟨⟨h.dq, h.lq, fun j hj => h.zero j (by omega), ?_⟩, ?_⟩
  · have hv := h.val
    rw [drop_digit n p, drop_cons qs p (by rw [h.lq]; exact hp), hz, Nat.zero_add, Nat.mul_assoc]
    omega
  · rw [hz]; omega
theorem OIn.step {n m a p R : Nat} {qs : List Nat} (h : OIn n m qs a p R) (hp : p < a) (hle : m ≤ R) (hm : 0 < m) : OIn n m (qs.set p (qs.getD p 0 + 1)) a p (R - m) ∧ qs.getD p 0 + 1 < 10 := by
  have ht : qs.getD p 0 + 1 < 10 := by
    rcases Nat.lt_or_ge (qs.getD p 0 + 1) 10 with h1 | h1
    · exact h1
    · have h2 := Nat.mul_le_mul_right m h1
      rw [Nat.add_mul, Nat.one_mul] at h2
      have := h.room
      omega
  refine ⟨⟨⟨h.base.dq.set_ _ ht, by rw [List.length_set]; exact h.base.lq, fun j hj => by rw [getD_set_ne _ (by omega)]; exact h.base.zero j hj, ?_⟩, ?_⟩, ht⟩
  · have hv := h.base.val
    rw [drop_cons _ p (by rw [List.length_set, h.base.lq]; exact hp), getD_set_self _ (by rw [h.base.lq]; exact hp), List.drop_set, if_pos (by omega)]
    rw [drop_cons qs p (by rw [h.base.lq]; exact hp)] at hv
    rw [← hv]
    generalize ofD (qs.drop (p + 1)) = X
    simp only [Nat.add_mul, Nat.one_mul]
    omega
  · rw [getD_set_self _ (by rw [h.base.lq]; exact hp), Nat.add_mul, Nat.one_mul]
    have := h.room
    omega
theorem OInv.done {n m a R : Nat} {qs : List Nat} (h : OInv n m qs a 0 R) (hR : R < m) : ofD qs = n / m ∧ R = n % m := by
  have hv := h.val
  rw [List.drop_zero, Nat.pow_zero, Nat.div_one] at hv
  have hm : 0 < m := by omega
  constructor
  · rw [← hv, Nat.mul_comm, Nat.add_comm, Nat.add_mul_div_left _ _ hm, Nat.div_eq_of_lt hR, Nat.zero_add]
  · rw [← hv, Nat.mul_comm, Nat.mul_add_mod, Nat.mod_eq_of_lt hR]

end Go.Proofs.YtfnkmgipjemkdaaDoor
