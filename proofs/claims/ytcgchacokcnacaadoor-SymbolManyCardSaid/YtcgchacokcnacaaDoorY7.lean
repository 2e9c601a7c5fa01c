/- Rows of packages and of symbols: made, copied, stored into. -/
import Derived.Test.YtcgchacokcnacaaDoorY6
import Derived.OwnWalk
import Derived.Deep.MidRow
namespace Go.Proofs.YtcgchacokcnacaaDoor
open Go Go.RowKit
set_option linter.unusedVariables false

theorem info_ofY {P : Program} {t : TypeId} {z : Value} {a b : Nat} (h : (P.info? t).map (fun i => (i.zero, i.size, i.bytes)) = some (some z, a, b)) : ∃ i, P.info? t = some i ∧ i.zero = some z ∧ i.size = a ∧ i.bytes = b := by
  generalize P.info? t = x at h ⊢
  cases x with
  | none => cases h
  | some j =>
    simp only [Option.map_some, Option.some.injEq, Prod.mk.injEq] at h
    exact ⟨j, rfl, h.1, h.2.1, h.2.2⟩
theorem run_copy2 {P : Program} (w : World) (dT sT ty elem : TypeId) (g dLen dCap m : Nat) (sp : Option Addr) (sCap : Nat) (cur : Array Value) (t : TypeId) (cs : List Value)
    (hu : P.underlying dT = some (.slice elem)) (hs : (P.info? elem).map (·.size) = some 2) (hm : m ≤ dLen)
    (hg : w.heap[g]? = some (.cells cur t (0, 0))) (hn : cs.length = m * 2)
    (hsrc : 0 < m → ∃ ad, sp = some ad ∧ ∀ j v, cs[j]? = some v → w.cell? (Addr.add ad j) = some v) (hfit : cs.length ≤ cur.size) (h1 : ∀ v ∈ cs, v.oneCell' = true) :
    (Builtin.copy_ #[dT, sT] ty #[.slice (some ⟨g, 0, none⟩) dLen dCap, .slice sp m sCap]).run P w =
      .ok (goInt m) (w.setRow g (cs ++ cur.toList.drop cs.length).toArray) := by
  have hst := run_storeCells_at P g 0 t cs 0 cur w hg (by simpa using hfit) h1
  have hmin : Nat.min m dLen = m := Nat.min_eq_left hm
  cases hq : P.info? elem with
  | none => simp [hq] at hs
  | some i =>
    have hi : i.size = 2 := by simpa [hq] using hs
    by_cases h0 : 0 < m
    · obtain ⟨ad, rfl, hc⟩ := hsrc h0
      have hl := run_firstCells_some (P := P) w 2 m ad m sCap cs hn hc
      simp [Builtin.copy_, run_underlying hu, Builtin.lenOf, sizeOf, typeInfo, hq, hi, hmin, hl, hst]
    · have hm0 : m = 0 := by omega
      subst hm0
      have e : cs = [] := List.eq_nil_of_length_eq_zero (by simpa using hn)
      subst e
      have hl : (Builtin.firstCells 2 0 (.slice sp 0 sCap)).run P w = .ok #[] w := by
        cases sp with
        | none => simp [Builtin.firstCells]
        | some ad => exact run_firstCells_some (P := P) w 2 0 ad 0 sCap [] rfl (by simp)
      simp [Builtin.copy_, run_underlying hu, Builtin.lenOf, sizeOf, typeInfo, hq, hi, hl, storeCells]
      rw [setRow_self w g cur t (0, 0) hg]
theorem infoP : ∃ i, Tryd.prog.info? 26 = some i ∧ i.zero = some (.agg #[.string ⟨#[]⟩, .slice none 0 0]) ∧ i.size = 2 ∧ i.bytes = 40 := info_ofY (P := Tryd.prog) (t := 26) (z := .agg #[.string ⟨#[]⟩, .slice none 0 0]) (a := 2) (b := 40) (by kernel_rfl)
theorem mkP {ops : Array Oper} {rest : List Oper} {o : Oper} {a : Act} {w : World} {Q : Exit → Act → World → Prop} (l c : Operand) (ho : o.op = .makeSlice 30 l c) (hgd : o.guard = none) (n : Nat) (hn : n ≤ 100000) (hl : a.eval l = .int .i64 n) (hc : a.eval c = .int .i64 n)
    (h : ∀ (w' : World) (cur : List Value), cur.length = n * 2 → w'.heap[w.heap.size]? = some (.cells cur.toArray 26 (0, 0)) → Below w.heap.size w w' → wpList Tryd.prog ops Q rest (a.put o.dst (.slice (some ⟨w.heap.size, 0, none⟩) n n)) w') : wpList Tryd.prog ops Q (o :: rest) a w := by
  obtain ⟨i, h1, h2, h3, h4⟩ := infoP
  refine wpList_make_full w hgd l c 30 ho w.heap.size 26 i _ 2 Tryd.underlying30 h1 h2 h3 .i64 .i64 n n n hl hc rfl rfl (by rw [h4]; omega) (by unfold maxLen; omega) (Nat.le_refl _) fun w' hown hg => ?_
  have hb : Below w.heap.size w w' := Below.grown (Below.refl _ _) hg (Nat.le_refl _) (fun k hk => by cases hk)
  obtain ⟨hlen, hr⟩ := hown
  rcases hr with ⟨e, _⟩ | ⟨g, cap, cur, e, _, hgg, _, _, hs, _⟩
  · cases e
  · injection e with e1 e2 e3
    injection e1 with e1
    injection e1 with e1 _ _
    subst e1
    subst e3
    exact h w' cur.toList (by simpa using hs) (by simpa using hgg) hb
theorem cpP {ops : Array Oper} {rest : List Oper} {o : Oper} {a : Act} {w : World} {Q : Exit → Act → World → Prop} (d s : Operand) (ho : o.op = .call { callee := .builtin .copy, args := #[d, s], argTypes := #[30, 30] }) (hgd : o.guard = none)
    (g n c m c' : Nat) (sp : Option Addr) (hd : a.eval d = .slice (some ⟨g, 0, none⟩) n c) (hs : a.eval s = .slice sp m c') (hm : m ≤ n) (cur cs : List Value) (hg : w.heap[g]? = some (.cells cur.toArray 26 (0, 0))) (hcl : cs.length = m * 2)
    (hsrc : 0 < m → ∃ ad, sp = some ad ∧ ∀ j v, cs[j]? = some v → w.cell? (Addr.add ad j) = some v) (hfit : cs.length ≤ cur.length) (h1 : ∀ v ∈ cs, v.oneCell' = true)
    (h : ∀ w', w'.heap[g]? = some (.cells (cs ++ cur.drop cs.length).toArray 26 (0, 0)) → (∀ B w0, Below B w0 w → B ≤ g → Below B w0 w') → (∀ k, k ≠ g → w'.heap[k]? = w.heap[k]?) → wpList Tryd.prog ops Q rest (a.put o.dst (.int .i64 m)) w') : wpList Tryd.prog ops Q (o :: rest) a w := by
  refine wpList_plain hgd fun K hK => ?_
  have hrun := run_copy2 (P := Tryd.prog) w 30 30 o.type 26 g n c m sp c' cur.toArray 26 cs Tryd.underlying30 (by kernel_rfl) hm hg hcl hsrc (by simpa using hfit) h1
  unfold Oper.wp
  simp [execOp, ho, resolve, invoke, builtin, hd, hs, hrun, Result.andThen]
  exact hK _ _ (h _ (by simpa using setRow_heap w g _ _ 26 _ hg) (fun B w0 hb hB => below_setRow hb hB _) (fun k hk => setRow_other w g k _ hk))
theorem infoS : ∃ i, Tryd.prog.info? 29 = some i ∧ i.zero = some (.agg #[.string ⟨#[]⟩, .string ⟨#[]⟩]) ∧ i.size = 2 ∧ i.bytes = 32 := info_ofY (P := Tryd.prog) (t := 29) (z := .agg #[.string ⟨#[]⟩, .string ⟨#[]⟩]) (a := 2) (b := 32) (by kernel_rfl)
theorem mkS {ops : Array Oper} {rest : List Oper} {o : Oper} {a : Act} {w : World} {Q : Exit → Act → World → Prop} (l c : Operand) (ho : o.op = .makeSlice 24 l c) (hgd : o.guard = none) (n : Nat) (hn : n ≤ 100000) (hl : a.eval l = .int .i64 n) (hc : a.eval c = .int .i64 n)
    (h : ∀ (w' : World) (cur : List Value), cur.length = n * 2 → w'.heap[w.heap.size]? = some (.cells cur.toArray 29 (0, 0)) → Below w.heap.size w w' → wpList Tryd.prog ops Q rest (a.put o.dst (.slice (some ⟨w.heap.size, 0, none⟩) n n)) w') : wpList Tryd.prog ops Q (o :: rest) a w := by
  obtain ⟨i, h1, h2, h3, h4⟩ := infoS
  refine wpList_make_full w hgd l c 24 ho w.heap.size 29 i _ 2 Tryd.underlying24 h1 h2 h3 .i64 .i64 n n n hl hc rfl rfl (by rw [h4]; omega) (by unfold maxLen; omega) (Nat.le_refl _) fun w' hown hg => ?_
  have hb : Below w.heap.size w w' := Below.grown (Below.refl _ _) hg (Nat.le_refl _) (fun k hk => by cases hk)
  obtain ⟨hlen, hr⟩ := hown
  rcases hr with ⟨e, _⟩ | ⟨g, cap, cur, e, _, hgg, _, _, hs, _⟩
  · cases e
  · injection e with e1 e2 e3
    injection e1 with e1
    injection e1 with e1 _ _
    subst e1
    subst e3
    exact h w' cur.toList (by simpa using hs) (by simpa using hgg) hb
theorem cpS {ops : Array Oper} {rest : List Oper} {o : Oper} {a : Act} {w : World} {Q : Exit → Act → World → Prop} (d s : Operand) (ho : o.op = .call { callee := .builtin .copy, args := #[d, s], argTypes := #[24, 24] }) (hgd : o.guard = none)
    (g n c m c' : Nat) (sp : Option Addr) (hd : a.eval d = .slice (some ⟨g, 0, none⟩) n c) (hs : a.eval s = .slice sp m c') (hm : m ≤ n) (cur cs : List Value) (hg : w.heap[g]? = some (.cells cur.toArray 29 (0, 0))) (hcl : cs.length = m * 2)
    (hsrc : 0 < m → ∃ ad, sp = some ad ∧ ∀ j v, cs[j]? = some v → w.cell? (Addr.add ad j) = some v) (hfit : cs.length ≤ cur.length) (h1 : ∀ v ∈ cs, v.oneCell' = true)
    (h : ∀ w', w'.heap[g]? = some (.cells (cs ++ cur.drop cs.length).toArray 29 (0, 0)) → (∀ B w0, Below B w0 w → B ≤ g → Below B w0 w') → (∀ k, k ≠ g → w'.heap[k]? = w.heap[k]?) → wpList Tryd.prog ops Q rest (a.put o.dst (.int .i64 m)) w') : wpList Tryd.prog ops Q (o :: rest) a w := by
  refine wpList_plain hgd fun K hK => ?_
  have hrun := run_copy2 (P := Tryd.prog) w 24 24 o.type 29 g n c m sp c' cur.toArray 29 cs Tryd.underlying24 (by kernel_rfl) hm hg hcl hsrc (by simpa using hfit) h1
  unfold Oper.wp
  simp [execOp, ho, resolve, invoke, builtin, hd, hs, hrun, Result.andThen]
  exact hK _ _ (h _ (by simpa using setRow_heap w g _ _ 29 _ hg) (fun B w0 hb hB => below_setRow hb hB _) (fun k hk => setRow_other w g k _ hk))
/-- A store of a package into a row of packages. -/
theorem stP {ops : Array Oper} {rest : List Oper} {o : Oper} {a : Act} {w : World} {Q : Exit → Act → World → Prop} (x y : Operand) (ho : o.op = .store 26 x y) (hgd : o.guard = none) (g k : Nat) (u v : Value) (hx : a.eval x = .pointer (some ⟨g, k, none⟩)) (hy : a.eval y = .agg #[u, v])
    (cur : List Value) (hg : w.heap[g]? = some (.cells cur.toArray 26 (0, 0))) (hk : k + 2 ≤ cur.length) (h1 : u.oneCell' = true) (h2 : v.oneCell' = true)
    (h : ∀ w', w'.heap[g]? = some (.cells ((cur.set k u).set (k + 1) v).toArray 26 (0, 0)) → (∀ B w0, Below B w0 w → B ≤ g → Below B w0 w') → (∀ k, k ≠ g → w'.heap[k]? = w.heap[k]?) → wpList Tryd.prog ops Q rest (a.put o.dst undef) w') : wpList Tryd.prog ops Q (o :: rest) a w := by
  have hth : w.there g k 2 := fun j hj => by
    have hj' : k + j < cur.length := by omega
    refine ⟨?_, by simp [World.frozen?, hg]⟩
    rw [cell_of_row _ _ _ _ _ _ hg]
    simp [hj']
  refine wpList_store_mid hgd 26 x y ho g k #[u, v] hx hy hth (by kernel_rfl) (by simp [h1, h2]) ?_
  have e : w.setCells g k [u, v] = w.setRow g ((cur.set k u).set (k + 1) v).toArray := by
    show ((w.setCell ⟨g, k, none⟩ u).setCell ⟨g, k + 1, none⟩ v) = _
    rw [setCell_eq_setRow w g k cur.toArray 26 (0, 0) u hg, setCell_eq_setRow _ g (k + 1) _ 26 (0, 0) v (setRow_heap w g _ _ 26 _ hg), setRow_setRow]
    simp
  show wpList _ _ _ _ _ (w.setCells g k [u, v])
  rw [e]
  exact h _ (setRow_heap w g _ _ 26 _ hg) (fun B w0 hb hB => below_setRow hb hB _) (fun k hk => setRow_other w g k _ hk)
theorem add_blockY (a : Addr) (j : Nat) : (Addr.add a j).block = a.block := by unfold Addr.add; split <;> rfl
theorem add_midY (b o j : Nat) : (⟨b, o, none⟩ : Addr).add j = ⟨b, o + j, none⟩ := by unfold Addr.add; split <;> simp_all
/-- The cells of a slice of packages. -/
theorem PgV.cells {w : World} {l : List Pg} {A : Option Addr} {c : Nat} (h : PgV w l (.slice A l.length c)) : ∃ cs : List Value, cs.length = l.length * 2 ∧ (0 < l.length → ∃ ad, A = some ad ∧ ad.block < w.heap.size ∧ ∀ j v, cs[j]? = some v → w.cell? (Addr.add ad j) = some v) ∧ (∀ v ∈ cs, v.oneCell' = true) ∧
    (∀ i (hi : i < l.length), cs[i * 2]? = some (.string l[i].1) ∧ ∃ u, cs[i * 2 + 1]? = some u ∧ SyV w l[i].2 u) := by
  obtain ⟨A', c', e, h2, h3, h4⟩ := h
  injection e with e1 e2 e3
  subst e1
  by_cases h0 : 0 < l.length
  · obtain ⟨b, o, rfl, hb, hc⟩ := h4 h0
    have hcell : ∀ j, j < l.length * 2 → ∃ v, w.cell? ⟨b, o + j, none⟩ = some v ∧ v.oneCell' = true := fun j hj => by
      obtain ⟨k1, u, k2, k3⟩ := hc (j / 2) (by omega)
      rcases Nat.mod_two_eq_zero_or_one j with hm | hm
      · rw [show o + j / 2 * 2 = o + j from by omega] at k1
        exact ⟨_, k1, rfl⟩
      · rw [show o + j / 2 * 2 + 1 = o + j from by omega] at k2
        obtain ⟨_, _, rfl, _⟩ := k3
        exact ⟨_, k2, rfl⟩
    refine ⟨(List.range (l.length * 2)).map fun j => (w.cell? ⟨b, o + j, none⟩).getD undef, by simp, fun _ => ⟨⟨b, o, none⟩, rfl, hb, fun j v hj => ?_⟩, fun v hv => ?_, fun i hi => ?_⟩
    · rw [List.getElem?_map] at hj
      have hjl : j < l.length * 2 := by
        rcases Nat.lt_or_ge j (l.length * 2) with h | h
        · exact h
        · rw [List.getElem?_eq_none (by simpa using h)] at hj; cases hj
      rw [List.getElem?_range hjl] at hj
      obtain ⟨x, hx, _⟩ := hcell j hjl
      simp only [Option.map_some, hx, Option.getD_some, Option.some.injEq] at hj
      subst hj
      rw [add_midY]
      exact hx
    · obtain ⟨j, hj, rfl⟩ := List.mem_map.1 hv
      obtain ⟨x, hx, h1⟩ := hcell j (List.mem_range.1 hj)
      rw [hx]
      exact h1
    · obtain ⟨k1, u, k2, k3⟩ := hc i hi
      refine ⟨?_, u, ?_, k3⟩
      · rw [List.getElem?_map, List.getElem?_range (by omega)]
        simp only [Option.map_some, k1, Option.getD_some]
      · rw [List.getElem?_map, List.getElem?_range (by omega)]
        simp only [Option.map_some]
        rw [show o + (i * 2 + 1) = o + i * 2 + 1 from by omega, k2]
        rfl
  · exact ⟨[], by simp; omega, fun h => absurd h h0, fun v hv => by simp at hv, fun i hi => absurd hi (by omega)⟩
theorem SyV.cells {w : World} {l : List Sy} {A : Option Addr} {c : Nat} (h : SyV w l (.slice A l.length c)) : ∃ cs : List Value, cs.length = l.length * 2 ∧ (0 < l.length → ∃ ad, A = some ad ∧ ad.block < w.heap.size ∧ ∀ j v, cs[j]? = some v → w.cell? (Addr.add ad j) = some v) ∧ (∀ v ∈ cs, v.oneCell' = true) ∧
    (∀ i (hi : i < l.length), cs[i * 2]? = some (.string l[i].1) ∧ cs[i * 2 + 1]? = some (.string l[i].2)) := by
  obtain ⟨A', c', e, h2, h3, h4⟩ := h
  injection e with e1 e2 e3
  subst e1
  by_cases h0 : 0 < l.length
  · obtain ⟨b, o, rfl, hb, hc⟩ := h4 h0
    have hcell : ∀ j, j < l.length * 2 → ∃ v, w.cell? ⟨b, o + j, none⟩ = some v ∧ v.oneCell' = true := fun j hj => by
      obtain ⟨k1, k2⟩ := hc (j / 2) (by omega)
      rcases Nat.mod_two_eq_zero_or_one j with hm | hm
      · rw [show o + j / 2 * 2 = o + j from by omega] at k1
        exact ⟨_, k1, rfl⟩
      · rw [show o + j / 2 * 2 + 1 = o + j from by omega] at k2
        exact ⟨_, k2, rfl⟩
    refine ⟨(List.range (l.length * 2)).map fun j => (w.cell? ⟨b, o + j, none⟩).getD undef, by simp, fun _ => ⟨⟨b, o, none⟩, rfl, hb, fun j v hj => ?_⟩, fun v hv => ?_, fun i hi => ?_⟩
    · rw [List.getElem?_map] at hj
      have hjl : j < l.length * 2 := by
        rcases Nat.lt_or_ge j (l.length * 2) with h | h
        · exact h
        · rw [List.getElem?_eq_none (by simpa using h)] at hj; cases hj
      rw [List.getElem?_range hjl] at hj
      obtain ⟨x, hx, _⟩ := hcell j hjl
      simp only [Option.map_some, hx, Option.getD_some, Option.some.injEq] at hj
      subst hj
      rw [add_midY]
      exact hx
    · obtain ⟨j, hj, rfl⟩ := List.mem_map.1 hv
      obtain ⟨x, hx, h1⟩ := hcell j (List.mem_range.1 hj)
      rw [hx]
      exact h1
    · obtain ⟨k1, k2⟩ := hc i hi
      refine ⟨?_, ?_⟩
      · rw [List.getElem?_map, List.getElem?_range (by omega)]
        simp only [Option.map_some, k1, Option.getD_some]
      · rw [List.getElem?_map, List.getElem?_range (by omega)]
        simp only [Option.map_some]
        rw [show o + (i * 2 + 1) = o + i * 2 + 1 from by omega, k2]
        rfl
  · exact ⟨[], by simp; omega, fun h => absurd h h0, fun v hv => by simp at hv, fun i hi => absurd hi (by omega)⟩
/-- A row of packages is a slice of them. -/
theorem PgV.of_row {W : World} {g c : Nat} {row : List Value} {l : List Pg} (hg : W.heap[g]? = some (.cells row.toArray 26 (0, 0))) (hc : l.length ≤ c) (hc' : c ≤ maxLen)
    (h : ∀ i (hi : i < l.length), row[i * 2]? = some (.string l[i].1) ∧ ∃ u, row[i * 2 + 1]? = some u ∧ SyV W l[i].2 u) : PgV W l (.slice (some ⟨g, 0, none⟩) l.length c) :=
  ⟨_, c, rfl, hc, hc', fun _ => ⟨g, 0, rfl, blk_ltY hg, fun i hi => by
    obtain ⟨h1, u, h2, h3⟩ := h i hi
    refine ⟨?_, u, ?_, h3⟩
    · rw [cell_of_row _ _ _ _ _ _ hg, Nat.zero_add]; simpa using h1
    · rw [cell_of_row _ _ _ _ _ _ hg, Nat.zero_add]; simpa using h2⟩⟩
theorem SyV.of_row {W : World} {g c : Nat} {row : List Value} {l : List Sy} (hg : W.heap[g]? = some (.cells row.toArray 29 (0, 0))) (hc : l.length ≤ c) (hc' : c ≤ maxLen)
    (h : ∀ i (hi : i < l.length), row[i * 2]? = some (.string l[i].1) ∧ row[i * 2 + 1]? = some (.string l[i].2)) : SyV W l (.slice (some ⟨g, 0, none⟩) l.length c) :=
  ⟨_, c, rfl, hc, hc', fun _ => ⟨g, 0, rfl, blk_ltY hg, fun i hi => by
    obtain ⟨h1, h2⟩ := h i hi
    refine ⟨?_, ?_⟩
    · rw [cell_of_row _ _ _ _ _ _ hg, Nat.zero_add]; simpa using h1
    · rw [cell_of_row _ _ _ _ _ _ hg, Nat.zero_add]; simpa using h2⟩⟩
end Go.Proofs.YtcgchacokcnacaaDoor
