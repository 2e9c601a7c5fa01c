/- append onto a row of packages. -/
import Derived.Test.YtcgchacokcnacaaDoorY8
namespace Go.Proofs.YtcgchacokcnacaaDoor
open Go Go.RowKit
set_option linter.unusedVariables false

theorem run_appendP (w : World) (ty : TypeId) (g n c m c' : Nat) (sp : Option Addr) (cur cs : List Value) (hg : w.heap[g]? = some (.cells cur.toArray 26 (0, 0))) (hroom : n + m ≤ c) (hcl : cs.length = m * 2)
    (hsrc : 0 < m → ∃ ad, sp = some ad ∧ ∀ j v, cs[j]? = some v → w.cell? (Addr.add ad j) = some v) (hfit : n * 2 + cs.length ≤ cur.length) (h1 : ∀ v ∈ cs, v.oneCell' = true) :
    (Builtin.append_ #[30, 30] ty #[.slice (some ⟨g, 0, none⟩) n c, .slice sp m c']).run Tryd.prog w = .ok (.slice (some ⟨g, 0, none⟩) (n + m) c) (w.setRow g (cur.take (n * 2) ++ cs ++ cur.drop (n * 2 + cs.length)).toArray) := by
  obtain ⟨i, h2, h3, h4, h5⟩ := infoP
  by_cases h0 : 0 < m
  · obtain ⟨ad, rfl, hc⟩ := hsrc h0
    have := run_append_room (P := Tryd.prog) w 30 ty 26 i Tryd.underlying30 h2 g n c cur.toArray hg ad m c' cs (by rw [h4]; exact hcl) hc h1 hroom (by rw [h4]; simpa using hfit)
    rw [h4] at this
    simpa using this
  · have hm0 : m = 0 := by omega
    subst hm0
    have e : cs = [] := List.eq_nil_of_length_eq_zero (by simpa using hcl)
    subst e
    cases sp with
    | none =>
      have hst := run_storeCells_at Tryd.prog g (n * 2) 26 [] 0 cur.toArray w hg (by simpa using hfit) (by simp)
      have hroom' : n ≤ c := by omega
      simp only [Nat.add_zero] at hst
      simp [Builtin.append_, run_underlying Tryd.underlying30, sizeOf, typeInfo, h2, Builtin.lenOf, hroom', Builtin.firstCells, Addr.add_lit, storeCells]
      rw [setRow_self w g cur.toArray 26 (0, 0) hg]
    | some ad =>
      have := run_append_room (P := Tryd.prog) w 30 ty 26 i Tryd.underlying30 h2 g n c cur.toArray hg ad 0 c' [] (by simp) (by simp) (by simp) hroom (by rw [h4]; simpa using hfit)
      rw [h4] at this
      simpa using this
theorem stepAppP {ops : Array Oper} {o : Oper} {a : Act} {w : World} {K : Act → World → Prop} {Q : Exit → Act → World → Prop} {E : Prop} (hgd : o.guard = none) (d s : Operand)
    (ho : o.op = .call { callee := .builtin .append, args := #[d, s], argTypes := #[30, 30] }) (g n c m c' : Nat) (sp : Option Addr) (hd : a.eval d = .slice (some ⟨g, 0, none⟩) n c) (hs : a.eval s = .slice sp m c') (hroom : n + m ≤ c)
    (cur cs : List Value) (hg : w.heap[g]? = some (.cells cur.toArray 26 (0, 0))) (hcl : cs.length = m * 2)
    (hsrc : 0 < m → ∃ ad, sp = some ad ∧ ∀ j v, cs[j]? = some v → w.cell? (Addr.add ad j) = some v) (hfit : n * 2 + cs.length ≤ cur.length) (h1 : ∀ v ∈ cs, v.oneCell' = true)
    (h : ∀ w', w'.heap[g]? = some (.cells (cur.take (n * 2) ++ cs ++ cur.drop (n * 2 + cs.length)).toArray 26 (0, 0)) → (∀ B w0, Below B w0 w → B ≤ g → Below B w0 w') → (∀ k, k ≠ g → w'.heap[k]? = w.heap[k]?) → K (a.put o.dst (.slice (some ⟨g, 0, none⟩) (n + m) c)) w') :
    if Region.wanted o (yielded ops a.tmps) = true then Oper.wp Tryd.prog o a w K Q else E := by
  have hw : Region.wanted o (yielded ops a.tmps) = true := by simp [Region.wanted, hgd]
  rw [if_pos hw]
  have hrun := run_appendP w o.type g n c m c' sp cur cs hg hroom hcl hsrc hfit h1
  unfold Oper.wp
  simp [execOp, ho, resolve, invoke, builtin, hd, hs, hrun, Result.andThen]
  exact h _ (by simpa using setRow_heap w g _ _ 26 _ hg) (fun B w0 hb hB => below_setRow hb hB _) (fun k hk => setRow_other w g k _ hk)
end Go.Proofs.YtcgchacokcnacaaDoor
