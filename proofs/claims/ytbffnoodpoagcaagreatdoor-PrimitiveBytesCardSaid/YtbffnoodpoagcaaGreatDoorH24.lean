/- Steps of regions under guards. -/
import Derived.Test.YtbffnoodpoagcaaGreatDoorH23
namespace Go.Proofs.YtbffnoodpoagcaaGreatDoor
open Go Go.RowKit
set_option linter.unusedVariables false
section
variable {P : Program} {Q : Exit → Act → World → Prop} {ops : Array Oper} {K : Act → World → Prop} {a : Act} {w : World} {i : Nat} {o : Oper}
theorem wanted_g {og : Oper} {g : Nat} {b v : Bool} {s : Tmp} (hg : o.guard = some (g, b)) (ho : ops[g]? = some og) (hd : og.dst = some s) (hs : a.tmps[s]? = some (.bool v)) : Region.wanted o (yielded ops a.tmps) = (v == b) := by
 simp [Region.wanted, hg, yielded, ho, hd, hs]
theorem wanted_on {og : Oper} {g : Nat} {b v : Bool} {s : Tmp} (hg : o.guard = some (g, b)) (ho : ops[g]? = some og) (hd : og.dst = some s) (hs : a.tmps[s]? = some (.bool v)) (e : (v == b) = true) : Region.wanted o (yielded ops a.tmps) = true := (wanted_g hg ho hd hs).trans e
theorem wanted_off {og : Oper} {g : Nat} {b v : Bool} {s : Tmp} (hg : o.guard = some (g, b)) (ho : ops[g]? = some og) (hd : og.dst = some s) (hs : a.tmps[s]? = some (.bool v)) (e : (v == b) = false) : Region.wanted o (yielded ops a.tmps) = false := (wanted_g hg ho hd hs).trans e
theorem gw_skip (ho : ops[i]? = some o) (hw : Region.wanted o (yielded ops a.tmps) = false) (hK : K (a.put o.dst undef) w) : wpOp P ops Q i K a w :=
 wpOp_step ho fun K' hK' => by
  rw [if_neg (by rw [hw]; exact Bool.false_ne_true)]
  exact hK' _ _ hK
theorem gw_t (ho : ops[i]? = some o) (hw : Region.wanted o (yielded ops a.tmps) = true) (f : FuncId) (s0 : Tmp) (v0 : Value) (ts : Array TypeId) (hop : o.op = Op.call { callee := Callee.value (Operand.func f), args := #[.tmp s0], argTypes := ts }) (hf : ∀ (v0 : Value) (w : World), (callFunc f #[v0]).run P w = .ok (.enter f #[v0]) w)
 (h0 : a.tmps[s0]? = some v0)
 (hc : Calls P f #[v0] w fun e w' => ∃ r, e = .returned r ∧ K (a.put o.dst r) w') : wpOp P ops Q i K a w :=
 wpOp_step ho fun K' hK' => by
  rw [if_pos hw]
  unfold Oper.wp
  simp only [execOp, hop]
  go_simp
  refine hc.mono ?_
  rintro e w' ⟨r, rfl, h⟩
  exact hK' _ _ h
theorem gw_c (ho : ops[i]? = some o) (hw : Region.wanted o (yielded ops a.tmps) = true) (f : FuncId)  (v0 : Value) (ts : Array TypeId) (hop : o.op = Op.call { callee := Callee.value (Operand.func f), args := #[.const v0], argTypes := ts }) (hf : ∀ (v0 : Value) (w : World), (callFunc f #[v0]).run P w = .ok (.enter f #[v0]) w)

 (hc : Calls P f #[v0] w fun e w' => ∃ r, e = .returned r ∧ K (a.put o.dst r) w') : wpOp P ops Q i K a w :=
 wpOp_step ho fun K' hK' => by
  rw [if_pos hw]
  unfold Oper.wp
  simp only [execOp, hop]
  go_simp
  refine hc.mono ?_
  rintro e w' ⟨r, rfl, h⟩
  exact hK' _ _ h
theorem gw_tt (ho : ops[i]? = some o) (hw : Region.wanted o (yielded ops a.tmps) = true) (f : FuncId) (s0 : Tmp) (s1 : Tmp) (v0 v1 : Value) (ts : Array TypeId) (hop : o.op = Op.call { callee := Callee.value (Operand.func f), args := #[.tmp s0, .tmp s1], argTypes := ts }) (hf : ∀ (v0 v1 : Value) (w : World), (callFunc f #[v0, v1]).run P w = .ok (.enter f #[v0, v1]) w)
 (h0 : a.tmps[s0]? = some v0) (h1 : a.tmps[s1]? = some v1)
 (hc : Calls P f #[v0, v1] w fun e w' => ∃ r, e = .returned r ∧ K (a.put o.dst r) w') : wpOp P ops Q i K a w :=
 wpOp_step ho fun K' hK' => by
  rw [if_pos hw]
  unfold Oper.wp
  simp only [execOp, hop]
  go_simp
  refine hc.mono ?_
  rintro e w' ⟨r, rfl, h⟩
  exact hK' _ _ h
theorem gw_move (ho : ops[i]? = some o) (hw : Region.wanted o (yielded ops a.tmps) = true) (s : Tmp) (v : Value) (hop : o.op = Op.move (.tmp s)) (hx : a.tmps[s]? = some v) (hK : K (a.put o.dst v) w) : wpOp P ops Q i K a w :=
 wpOp_step ho fun K' hK' => by
  rw [if_pos hw]
  unfold Oper.wp
  simp only [execOp, hop]
  go_simp
  exact hK' _ _ hK
theorem gw_not (ho : ops[i]? = some o) (hw : Region.wanted o (yielded ops a.tmps) = true) (s : Tmp) (b : Bool) (t : TypeId) (hop : o.op = Op.unOp UnOp.not t (.tmp s)) (hx : a.tmps[s]? = some (.bool b)) (hK : K (a.put o.dst (.bool !b)) w) : wpOp P ops Q i K a w :=
 wpOp_step ho fun K' hK' => by
  rw [if_pos hw]
  unfold Oper.wp
  simp only [execOp, hop]
  go_simp
  exact hK' _ _ hK
theorem gw_pickT (ho : ops[i]? = some o) (hw : Region.wanted o (yielded ops a.tmps) = true) (s t : Tmp) (x : Operand) (v : Value) (hop : o.op = Op.pick (.tmp s) (.tmp t) x) (hx : a.tmps[s]? = some (.bool true)) (hy : a.tmps[t]? = some v) (hK : K (a.put o.dst v) w) : wpOp P ops Q i K a w :=
 wpOp_step ho fun K' hK' => by
  rw [if_pos hw]
  unfold Oper.wp
  simp only [execOp, hop]
  go_simp
  exact hK' _ _ hK
theorem gw_pickF (ho : ops[i]? = some o) (hw : Region.wanted o (yielded ops a.tmps) = true) (s : Tmp) (x : Operand) (v : Value) (hop : o.op = Op.pick (.tmp s) x (.const v)) (hx : a.tmps[s]? = some (.bool false)) (hK : K (a.put o.dst v) w) : wpOp P ops Q i K a w :=
 wpOp_step ho fun K' hK' => by
  rw [if_pos hw]
  unfold Oper.wp
  simp only [execOp, hop]
  go_simp
  exact hK' _ _ hK
theorem gw_load (ho : ops[i]? = some o) (hw : Region.wanted o (yielded ops a.tmps) = true) (ty : TypeId) (x : Operand) (hop : o.op = .load ty x) (g : Nat) (hx : a.eval x = .pointer (some ⟨g, 0, none⟩)) (cs : Array Value) (t : TypeId) (fr : Nat × Nat) (d : TypeDesc) (hc : w.heap[g]? = some (.cells cs t fr))
 (hu : P.underlying ty = some d) (hd : (match d with | .struct _ | .array _ _ => true | _ => false) = true) (hi : (P.info? ty).map (·.size) = some cs.size) (hK : K (a.put o.dst (.agg cs)) w) : wpOp P ops Q i K a w :=
 wpOp_step ho fun K' hK' => by
  rw [if_pos hw]
  exact wp_load_row ty x hop g hx t cs fr d hc hu hd hi (hK' _ _ hK)
end
theorem gw_box {Q : Exit → Act → World → Prop} {ops : Array Oper} {K : Act → World → Prop} {a : Act} {w : World} {i : Nat} {o : Oper} (ho : ops[i]? = some o) (hw : Region.wanted o (yielded ops a.tmps) = true) (x : Operand) (hop : o.op = .load 27 x) {g : Nat} {b : Ob} {p : Value} (hx : a.eval x = .pointer (some ⟨g, 0, none⟩)) (hb : Bx w g (cellsO b p).toArray)
 (hK : K (a.put o.dst (vO b p)) w) : wpOp Tryz.prog ops Q i K a w :=
 gw_load ho hw 27 x hop g hx _ _ _ _ hb Tryz.underlying27 rfl (by rw [List.size_toArray, cellsO_length]; kernel_rfl) hK
end Go.Proofs.YtbffnoodpoagcaaGreatDoor
