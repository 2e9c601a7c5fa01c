/- A slice of numbers as an argument. -/
import Derived.Test.YtinjhnnpbejccaaGreatDoorH19
import Derived.ChangeSlices
import Derived.OpenShut
namespace Go.Proofs.YtinjhnnpbejccaaGreatDoor
open Go Go.RowKit
set_option linter.unusedVariables false
def IntV (w : World) (l : List Int) (v : Value) : Prop := ∃ A c, v = .slice A l.length c ∧ l.length ≤ c ∧ c ≤ maxLen ∧
 (0 < l.length → ∃ b o, A = some ⟨b, o, none⟩ ∧ b < w.heap.size ∧ ∀ i (hi : i < l.length), w.cell? ⟨b, o + i, none⟩ = some (.int .i64 l[i])) ∧ ∀ x ∈ l, -9223372036854775808 ≤ x ∧ x ≤ 9223372036854775807
theorem cell_has5 {w : World} {a : Addr} {v : Value} (h : w.cell? a = some v) : a.block < w.heap.size ∧ a.spot = none := by
 unfold World.cell? at h
 have hlt : a.block < w.heap.size := by
  rcases Nat.lt_or_ge a.block w.heap.size with h1 | h1
  · exact h1
  · rw [Array.getElem?_eq_none h1] at h; cases h
 refine ⟨hlt, ?_⟩
 split at h
 · split at h
   · cases h
   · rename_i hs
     cases hsp : a.spot with
     | none => rfl
     | some x => rw [hsp] at hs; simp at hs
 · cases h
set_option maxRecDepth 100000 in
theorem open_intV {H : Type} {enc : TypeId × Value → H} {w : World} {spare : Nat → Bool} {held : Bool} {r : Reach} {b0 : Nat} {v : Value} {d : DataW H} {p : List MemPlace} (hv : Value.okWide Tryz.prog w r b0 58 v) (h : DataW.Trod enc Tryz.prog w 0 spare held 58 v d p) :
 ∃ l : List Int, IntV w l v := by
 have hone : v.cells.toList = [v] ∨ ∃ cs, v = .agg cs := by
  cases v <;> first | exact .inl rfl | exact .inr ⟨_, rfl⟩
 obtain ⟨fuel, hf⟩ := h
 rcases hone with hone | ⟨cs, rfl⟩
 · rw [hone] at hf
   rcases Go.ChangeShapes.open_ints Tryz.underlying58 Tryz.underlying3 (by kernel_rfl) hf with ⟨e3, _⟩ | ⟨a, len, cap, zs, e3, _, hlc, hcm, hz, _, hat, hwf⟩
   · injection e3 with e3
     subst e3
     exact ⟨[], none, 0, rfl, Nat.le_refl _, Nat.zero_le _, fun h => absurd h (by simp), fun x hx => by simp at hx⟩
   · injection e3 with e3
     subst e3
     have hlen : len ≤ zs.length := by rw [hz]; split <;> omega
     have htl : (zs.take len).length = len := by rw [List.length_take]; omega
     refine ⟨zs.take len, some a, cap, by rw [htl], by rw [htl]; exact hlc, hcm, fun h0 => ?_, fun x hx => ?_⟩
     · rw [htl] at h0
       have hg := hat 0 (by omega)
       obtain ⟨hb, hs⟩ := cell_has5 hg
       obtain ⟨b, o, sp⟩ := a
       simp only [Addr.add] at hs hb
       have hs' : sp = none := by simpa using hs
       subst hs'
       refine ⟨b, o, rfl, by simpa using hb, fun i hi => ?_⟩
       rw [htl] at hi
       have := hat i (by omega)
       rw [List.getD_eq_getElem?_getD, List.getElem?_eq_getElem (by omega)] at this
       have e : (Addr.add ⟨b, o, none⟩ i) = ⟨b, o + i, none⟩ := by
        unfold Addr.add
        split
        · rename_i h; rw [h]; simp
        · simp
       rw [e] at this
       rw [this, List.getElem_take]
       rfl
     · exact bounds_i64 (hwf x (List.mem_of_mem_take hx))
 · exfalso
   unfold Value.okWide at hv
   rw [Tryz.underlying58] at hv
   simp [Cell.okWide, Cell.ok] at hv
end Go.Proofs.YtinjhnnpbejccaaGreatDoor
