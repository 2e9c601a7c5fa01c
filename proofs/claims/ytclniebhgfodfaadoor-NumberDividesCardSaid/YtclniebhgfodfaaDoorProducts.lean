/- The walk of NumberProducts: for any two strings the program's product is the reference's. -/
import Derived.Test.YtclniebhgfodfaaDoorFirst
namespace Go.Proofs.YtclniebhgfodfaaDoor
open Go Go.RowKit
set_option linter.unusedVariables false

theorem string_cells (w : World) (l : List ByteArray) (g : Nat) (hg : g = w.heap.size) : ∀ j (hj : j < l.length), (w.alloc (.cells (l.map Value.string).toArray 9)).cell? ⟨g, j, none⟩ = some (.string l[j]) := by
  subst hg
  intro j hj
  rw [World.cell?_alloc_mark]
  simp [hj]
theorem sizes2 {a b : ByteArray} {M : Nat} (ha : a.size ≤ M) (hb : b.size ≤ M) : ∀ j (hj : j < [a, b].length), [a, b][j].size ≤ M := by
  intro j hj
  match j, hj with
  | 0, _ => exact ha
  | 1, _ => exact hb
theorem sizes3 {a b c : ByteArray} {M : Nat} (ha : a.size ≤ M) (hb : b.size ≤ M) (hc : c.size ≤ M) : ∀ j (hj : j < [a, b, c].length), [a, b, c][j].size ≤ M := by
  intro j hj
  match j, hj with
  | 0, _ => exact ha
  | 1, _ => exact hb
  | 2, _ => exact hc
theorem sizesOk2 {a b : ByteArray} (h : sizesOk 60 [a, b] = true) : a.size ≤ 60 ∧ b.size ≤ 60 := by
  unfold sizesOk at h
  simpa using h
theorem sizesOk3 {a b c : ByteArray} (h : sizesOk 60 [a, b, c] = true) : a.size ≤ 60 ∧ b.size ≤ 60 ∧ c.size ≤ 60 := by
  unfold sizesOk at h
  simpa using h

set_option maxHeartbeats 1000000 in
theorem products_walk (a b : ByteArray) (w : World) (ha : a.size ≤ maxLen) (hb : b.size ≤ maxLen) :
    Calls Tryd.prog 6 #[.string a, .string b] w (RetV w (.bool true)) := by
  cases hok : sizesOk 60 [a, b] with
  | false =>
    go_enter Tryd.func6, Tryd.ntmps6
    go_wp2_with fail
    refine (first_any _).mono ?_
    rintro e w1 ⟨rfl, hb1⟩
    go_wp2_with fail
    refine (short_any [a, b] w1.heap.size 2 2 _ rfl (by decide) (string_cells w1 [a, b] _ rfl) (sizes2 ha hb)).mono ?_
    rintro e w2 ⟨rfl, rfl⟩
    rw [hok]
    go_wp2
    go_ret
    exact ⟨rfl, hb1.alloc hb1.size _⟩
  | true =>
    obtain ⟨ha6, hb6⟩ := sizesOk2 hok
    replace hok := Lib.hid hok
    go_enter Tryd.func6, Tryd.ntmps6
    go_wp2_with fail
    refine (first_any _).mono ?_
    rintro e w1 ⟨rfl, hb1⟩
    go_wp2_with fail
    refine (short_any [a, b] w1.heap.size 2 2 _ rfl (by decide) (string_cells w1 [a, b] _ rfl) (sizes2 ha hb)).mono ?_
    rintro e w2 ⟨rfl, rfl⟩
    rw [hok.out]
    have hbA := hb1.alloc hb1.size (.cells ([a, b].map Value.string).toArray 9)
    have hsA := hbA.size
    go_wp2_with fail
    refine (multiply_any a b _ (by omega) (by omega)).mono ?_
    rintro e w3 ⟨rfl, hb3⟩
    have h3 := hb3.size
    go_wp2_with fail
    refine (multiplyR a b _ (by omega) (by omega)).mono ?_
    rintro e w4 ⟨rfl, hb4⟩
    go_wp2
    go_ret
    exact ⟨rfl, (hbA.trans (hb3.mono hsA)).trans (hb4.mono (Nat.le_trans hsA h3))⟩

end Go.Proofs.YtclniebhgfodfaaDoor
