/- The steps of a region that makes memory: a load of a whole variable, a call of one argument, an alloc of an object. -/
import Derived.Test.YtinjhnnpbejccaaGreatDoorG11
import Derived.Test.YtinjhnnpbejccaaGreatDoorG15
import Derived.Deep.MidRow
namespace Go.Proofs.YtinjhnnpbejccaaGreatDoor
open Go Go.RowKit
set_option linter.unusedVariables false
section
variable {P : Program} {Q : Exit → Act → World → Prop} {ops : Array Oper} {K : Act → World → Prop} {a : Act} {w : World} {i : Nat} {o : Oper}
theorem wanted_plain (hg : o.guard = none) : Region.wanted o (yielded ops a.tmps) = true := by simp [Region.wanted, hg]
theorem grow_load (ho : ops[i]? = some o) (hg : o.guard = none) (ty : TypeId) (x : Operand) (hop : o.op = .load ty x) (b k : Nat) (hx : a.eval x = .pointer (some ⟨b, k, none⟩)) (cs : List Value) (d : TypeDesc) (hc : w.rangeAt b k cs)
 (hu : P.underlying ty = some d) (hd : d.isRow = true) (hi : (P.info? ty).map (·.size) = some cs.length) (hK : K (a.put o.dst (.agg cs.toArray)) w) : wpOp P ops Q i K a w :=
 wpOp_step ho fun K' hK' => by
  rw [if_pos (wanted_plain hg)]
  exact wp_load_mid ty x hop b k hx cs d hc hu hd hi (hK' _ _ hK)
theorem grow_call1 (ho : ops[i]? = some o) (hg : o.guard = none) (f : FuncId) (s : Tmp) (ts : Array TypeId) (hop : o.op = Op.call { callee := Callee.value (Operand.func f), args := #[.tmp s], argTypes := ts }) (v : Value) (hf : ∀ (v : Value) (w : World), (callFunc f #[v]).run P w = .ok (.enter f #[v]) w) (hx : a.tmps[s]? = some v)
 (hc : Calls P f #[v] w fun e w' => ∃ r, e = .returned r ∧ K (a.put o.dst r) w') : wpOp P ops Q i K a w :=
 wpOp_step ho fun K' hK' => by
  rw [if_pos (wanted_plain hg)]
  unfold Oper.wp
  simp only [execOp, hop]
  go_simp
  refine hc.mono ?_
  rintro e w' ⟨r, rfl, h⟩
  exact hK' _ _ h
end
section
variable {P : Program} {Q : Exit → Act → World → Prop} {ops : Array Oper} {K : Act → World → Prop} {a : Act} {w : World} {i : Nat} {o : Oper}
theorem grow_call2 (ho : ops[i]? = some o) (hg : o.guard = none) (f : FuncId) (s t : Tmp) (ts : Array TypeId) (hop : o.op = Op.call { callee := Callee.value (Operand.func f), args := #[.tmp s, .tmp t], argTypes := ts }) (v u : Value) (hf : ∀ (v u : Value) (w : World), (callFunc f #[v, u]).run P w = .ok (.enter f #[v, u]) w)
 (hx : a.tmps[s]? = some v) (hy : a.tmps[t]? = some u)
 (hc : Calls P f #[v, u] w fun e w' => ∃ r, e = .returned r ∧ K (a.put o.dst r) w') : wpOp P ops Q i K a w :=
 wpOp_step ho fun K' hK' => by
  rw [if_pos (wanted_plain hg)]
  unfold Oper.wp
  simp only [execOp, hop]
  go_simp
  refine hc.mono ?_
  rintro e w' ⟨r, rfl, h⟩
  exact hK' _ _ h
theorem grow_callc (ho : ops[i]? = some o) (hg : o.guard = none) (f : FuncId) (s : Tmp) (c : Value) (ts : Array TypeId) (hop : o.op = Op.call { callee := Callee.value (Operand.func f), args := #[.tmp s, .const c], argTypes := ts }) (v : Value) (hf : ∀ (v u : Value) (w : World), (callFunc f #[v, u]).run P w = .ok (.enter f #[v, u]) w)
 (hx : a.tmps[s]? = some v)
 (hc : Calls P f #[v, c] w fun e w' => ∃ r, e = .returned r ∧ K (a.put o.dst r) w') : wpOp P ops Q i K a w :=
 wpOp_step ho fun K' hK' => by
  rw [if_pos (wanted_plain hg)]
  unfold Oper.wp
  simp only [execOp, hop]
  go_simp
  refine hc.mono ?_
  rintro e w' ⟨r, rfl, h⟩
  exact hK' _ _ h
theorem eval_of {s : Tmp} {v : Value} (h : a.tmps[s]? = some v) : a.eval (.tmp s) = v := by
 show a.tmps.getD s undef = v
 rw [Array.getD_eq_getD_getElem?, h]
 rfl
end
def puts (d : Nat → Nat) (v : Nat → Value) (a0 : Act) : Nat → Act
 | 0 => a0
 | n + 1 => (puts d v a0 n).put (some (d n)) (v n)
theorem puts_spec {a a0 : Act} {d : Nat → Nat} {v : Nat → Value} {n : Nat} (hsz : a.tmps.size = a0.tmps.size) (hslot : ∀ i, i < n → a.tmps[d i]? = some (v i)) :
 ∀ m, m ≤ n → (puts d v a0 m).defers = a0.defers ∧ (puts d v a0 m).tmps.size = a0.tmps.size ∧ ∀ s, ((∃ i, i < m ∧ d i = s) → (puts d v a0 m).tmps[s]? = a.tmps[s]?) ∧ ((∀ i, i < m → d i ≠ s) → (puts d v a0 m).tmps[s]? = a0.tmps[s]?)
 | 0, _ => ⟨rfl, rfl, fun s => ⟨fun ⟨_, h, _⟩ => absurd h (Nat.not_lt_zero _), fun _ => rfl⟩⟩
 | m + 1, hm => by
  obtain ⟨h1, h2, h3⟩ := puts_spec hsz hslot m (by omega)
  have hs := hslot m (by omega)
  have hlt : d m < a.tmps.size := by
   rcases Nat.lt_or_ge (d m) a.tmps.size with h | h
   · exact h
   · rw [Array.getElem?_eq_none h] at hs; cases hs
  have hp := put_tmps (puts d v a0 m) (d m) (v m)
  refine ⟨hp.2.trans h1, ?_, fun s => ⟨fun ⟨i, hi, e⟩ => ?_, fun hn => ?_⟩⟩
  · show ((puts d v a0 m).put (some (d m)) (v m)).tmps.size = _
    rw [hp.1, Array.size_setIfInBounds]; exact h2
  · show ((puts d v a0 m).put (some (d m)) (v m)).tmps[s]? = _
    rw [hp.1]
    by_cases hds : d m = s
    · subst hds
      rw [Array.getElem?_setIfInBounds_self_of_lt (by omega), hs]
    · rw [Array.getElem?_setIfInBounds_ne hds]
      have : i ≠ m := fun h => hds (by rw [← h]; exact e)
      exact (h3 s).1 ⟨i, by omega, e⟩
  · show ((puts d v a0 m).put (some (d m)) (v m)).tmps[s]? = _
    rw [hp.1, Array.getElem?_setIfInBounds_ne (hn m (by omega))]
    exact (h3 s).2 fun i hi => hn i (by omega)
theorem eq_puts {a a0 : Act} {d : Nat → Nat} {v : Nat → Value} {n : Nat} (hd : a.defers = a0.defers) (hsz : a.tmps.size = a0.tmps.size) (hoth : ∀ s, (∀ i, i < n → d i ≠ s) → a.tmps[s]? = a0.tmps[s]?) (hslot : ∀ i, i < n → a.tmps[d i]? = some (v i)) : a = puts d v a0 n := by
 obtain ⟨h1, h2, h3⟩ := puts_spec hsz hslot n (Nat.le_refl _)
 have ht : a.tmps = (puts d v a0 n).tmps := by
  apply Array.ext_getElem?
  intro s
  by_cases h : ∃ i, i < n ∧ d i = s
  · exact ((h3 s).1 h).symm
  · have h' : ∀ i, i < n → d i ≠ s := fun i hi e => h ⟨i, hi, e⟩
    rw [(h3 s).2 h', hoth s h']
 obtain ⟨t, df⟩ := a
 generalize puts d v a0 n = b at *
 obtain ⟨t', df'⟩ := b
 simp only at ht h1 hd
 rw [ht, hd, h1]
end Go.Proofs.YtinjhnnpbejccaaGreatDoor
