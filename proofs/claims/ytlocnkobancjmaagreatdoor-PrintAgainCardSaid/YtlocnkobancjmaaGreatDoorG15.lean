/- Rows of packages and of symbols: made, copied, stored into. -/
import Derived.Test.YtlocnkobancjmaaGreatDoorG14
import Derived.OwnWalk
import Derived.Deep.MidRow
namespace Go.Proofs.YtlocnkobancjmaaGreatDoor
open Go Go.RowKit
set_option linter.unusedVariables false
namespace Sy
theorem info_ofY {P : Program} {t : TypeId} {z : Value} {a b : Nat} (h : (P.info? t).map (fun i => (i.zero, i.size, i.bytes)) = some (some z, a, b)) : ∃ i, P.info? t = some i ∧ i.zero = some z ∧ i.size = a ∧ i.bytes = b := by
 generalize P.info? t = x at h ⊢
 cases x with
 | none => cases h
 | some j =>
  simp only [Option.map_some, Option.some.injEq, Prod.mk.injEq] at h
  exact ⟨j, rfl, h.1, h.2.1, h.2.2⟩
theorem infoP : ∃ i, Tryz.prog.info? 96 = some i ∧ i.zero = some (.agg #[.string ⟨#[]⟩, .slice none 0 0]) ∧ i.size = 2 ∧ i.bytes = 40 := info_ofY (P := Tryz.prog) (t := 96) (z := .agg #[.string ⟨#[]⟩, .slice none 0 0]) (a := 2) (b := 40) (by kernel_rfl)
theorem add_blockY (a : Addr) (j : Nat) : (Addr.add a j).block = a.block := by unfold Addr.add; split <;> rfl
theorem add_midY (b o j : Nat) : (⟨b, o, none⟩ : Addr).add j = ⟨b, o + j, none⟩ := by unfold Addr.add; split <;> simp_all
theorem PgV.cells {w : World} {l : List Pg} {A : Option Addr} {c : Nat} (h : PgV w l (.slice A l.length c)) : ∃ cs : List Value, cs.length = l.length * 2 ∧ (0 < l.length → ∃ ad, A = some ad ∧ ad.block < w.heap.size ∧ ∀ j v, cs[j]? = some v → w.cell? (Addr.add ad j) = some v) ∧ (∀ v ∈ cs, v.oneCell' = true) ∧
 (∀ i (hi : i < l.length), cs[i * 2]? = some (.string l[i].1) ∧ ∃ u, cs[i * 2 + 1]? = some u ∧ SyV w l[i].2 u) := by
 obtain ⟨A', c', e, h2, h3, h4⟩ := h
 injection e with e1 e2 e3
 subst e1
 by_cases h0 : 0 < l.length
 · obtain ⟨b, o, rfl, hb, hc⟩ := h4 h0
   have hcell : ∀ j, j < l.length * 2 → ∃ v, w.cell? ⟨b, o + j, none⟩ = some v ∧ v.oneCell' = true := fun j hj => by
    obtain ⟨k1, u, k2, k3⟩ := hc (j / 2) (by omega)
    rcases Nat.mod_two_eq_zero_or_one j with hm | hm
    · rw [show o + j / 2 * 2 = o + j from by omega] at k1
      exact ⟨_, k1, rfl⟩
    · rw [show o + j / 2 * 2 + 1 = o + j from by omega] at k2
      obtain ⟨_, _, rfl, _⟩ := k3
      exact ⟨_, k2, rfl⟩
   refine ⟨(List.range (l.length * 2)).map fun j => (w.cell? ⟨b, o + j, none⟩).getD undef, by simp, fun _ => ⟨⟨b, o, none⟩, rfl, hb, fun j v hj => ?_⟩, fun v hv => ?_, fun i hi => ?_⟩
   · rw [List.getElem?_map] at hj
     have hjl : j < l.length * 2 := by
      rcases Nat.lt_or_ge j (l.length * 2) with h | h
      · exact h
      · rw [List.getElem?_eq_none (by simpa using h)] at hj; cases hj
     rw [List.getElem?_range hjl] at hj
     obtain ⟨x, hx, _⟩ := hcell j hjl
     simp only [Option.map_some, hx, Option.getD_some, Option.some.injEq] at hj
     subst hj
     rw [add_midY]
     exact hx
   · obtain ⟨j, hj, rfl⟩ := List.mem_map.1 hv
     obtain ⟨x, hx, h1⟩ := hcell j (List.mem_range.1 hj)
     rw [hx]
     exact h1
   · obtain ⟨k1, u, k2, k3⟩ := hc i hi
     refine ⟨?_, u, ?_, k3⟩
     · rw [List.getElem?_map, List.getElem?_range (by omega)]
       simp only [Option.map_some, k1, Option.getD_some]
     · rw [List.getElem?_map, List.getElem?_range (by omega)]
       simp only [Option.map_some]
       rw [show o + (i * 2 + 1) = o + i * 2 + 1 from by omega, k2]
       rfl
 · exact ⟨[], by simp; omega, fun h => absurd h h0, fun v hv => by simp at hv, fun i hi => absurd hi (by omega)⟩
theorem PgV.of_row {W : World} {g c : Nat} {row : List Value} {l : List Pg} (hg : W.heap[g]? = some (.cells row.toArray 96 (0, 0))) (hc : l.length ≤ c) (hc' : c ≤ maxLen)
 (h : ∀ i (hi : i < l.length), row[i * 2]? = some (.string l[i].1) ∧ ∃ u, row[i * 2 + 1]? = some u ∧ SyV W l[i].2 u) : PgV W l (.slice (some ⟨g, 0, none⟩) l.length c) :=
 ⟨_, c, rfl, hc, hc', fun _ => ⟨g, 0, rfl, blk_ltY hg, fun i hi => by
  obtain ⟨h1, u, h2, h3⟩ := h i hi
  refine ⟨?_, u, ?_, h3⟩
  · rw [cell_of_row _ _ _ _ _ _ hg, Nat.zero_add]; simpa using h1
  · rw [cell_of_row _ _ _ _ _ _ hg, Nat.zero_add]; simpa using h2⟩⟩
theorem SyV.of_row {W : World} {g c : Nat} {row : List Value} {l : List Sy} (hg : W.heap[g]? = some (.cells row.toArray 24 (0, 0))) (hc : l.length ≤ c) (hc' : c ≤ maxLen)
 (h : ∀ i (hi : i < l.length), row[i * 2]? = some (.string l[i].1) ∧ row[i * 2 + 1]? = some (.string l[i].2)) : SyV W l (.slice (some ⟨g, 0, none⟩) l.length c) :=
 ⟨_, c, rfl, hc, hc', fun _ => ⟨g, 0, rfl, blk_ltY hg, fun i hi => by
  obtain ⟨h1, h2⟩ := h i hi
  refine ⟨?_, ?_⟩
  · rw [cell_of_row _ _ _ _ _ _ hg, Nat.zero_add]; simpa using h1
  · rw [cell_of_row _ _ _ _ _ _ hg, Nat.zero_add]; simpa using h2⟩⟩
end Sy
end Go.Proofs.YtlocnkobancjmaaGreatDoor
