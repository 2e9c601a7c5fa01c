/- SymbolMany: closed facts, FromInt, Mod. -/
import Derived.Test.YtcgchacokcnacaaDoorY14
import Derived.Test.YtcgchacokcnacaaDoorShelf
import Derived.Lib.LaidTab
import Derived.WalkSmall
namespace Go.Proofs.YtcgchacokcnacaaDoor
open Go Go.RowKit
set_option linter.unusedVariables false

/-- The imports of SymbolMany's package. -/
def manyS (k : Nat) : Sy := (⟨#[108, 105, 115, 112]⟩, ⟨(Lib.itoa (k : Int)).toArray⟩)
def manyQ (n : Nat) : List Sy := (List.range n).map manyS
theorem many199 : chkPkg initM (⟨#[109, 97, 110, 121]⟩, manyQ 199) = 0 := by kernel_rfl
theorem many200 : chkPkg initM (⟨#[109, 97, 110, 121]⟩, manyQ 200) = 0 := by kernel_rfl
theorem many201 : chkPkg initM (⟨#[109, 97, 110, 121]⟩, manyQ 201) = 2 := by kernel_rfl
def TabY (w : World) : Prop := Lib.TabIs Tryd.prog w "internal/strconv.uint64pow10" .u64 Lib.pow10Tab
theorem tab_globalY : Tryd.prog.globalNamed "internal/strconv.uint64pow10" = some 0 := by kernel_rfl
theorem TabY.pos {w : World} (h : TabY w) : 0 < w.heap.size := by
  have h1 := World.var?_cell tab_globalY h 0
  have h2 : w.cell? ⟨0, 0, none⟩ = some (.int .u64 1) := by rw [h1]; rfl
  exact World.block_lt_of_cell? w _ h2
theorem TabY.below {w w' : World} (h : TabY w) (hb : Below w.heap.size w w') : TabY w' := var?_below hb tab_globalY h.pos h
theorem below_growY (w : World) (k : Nat) (os : Array Obj) : Below w.heap.size w (Go.Sort.grow (w.drewN k) os) := by
  refine ⟨rfl, rfl, rfl, by simp [Go.Sort.grow], fun b hb => ?_⟩
  simp only [Go.Sort.grow, World.heap_drewN]
  rw [Array.getElem?_append_left hb]
set_option maxRecDepth 100000 in
theorem fromIntY (k : Nat) (hk : k ≤ 100000) (w : World) (ht : TabY w) : Calls Tryd.prog 6 #[.int .i64 k] w (RetY w (.string (manyS k).2)) := by
  replace ht := Lib.hid ht
  have hi : Hid (∀ X, TabY X → Calls Tryd.prog 11 #[.int .i64 (k : Int)] X (RetY X (.string (manyS k).2))) := fun X hX =>
    (Tryd.strconv_Itoa (k : Int) (by omega) (by omega) X hX).mono fun e w' ⟨h1, j, os, h2⟩ => by
      subst h2
      exact ⟨h1, below_growY X j os⟩
  go_enter Tryd.func6, Tryd.ntmps6
  go_wp2_with fail
  refine (hi.out _ ht.out).mono ?_
  rintro e w1 ⟨rfl, hb1⟩
  go_wp2
  go_ret
  exact ⟨rfl, hb1⟩
theorem tmod_emodY (n m : Int) (hm : 0 < m) : n % m = if n.tmod m < 0 then n.tmod m + m else n.tmod m := by
  have h1 := Int.emod_nonneg n (show m ≠ 0 by omega)
  have h2 := Int.emod_lt_of_pos n hm
  have h3 : n.tmod m = if 0 ≤ n ∨ m ∣ n then n % m else n % m - m := by
    rw [Int.tmod_eq_emod]; split <;> simp_all <;> omega
  rw [h3]
  split <;> split <;> omega
theorem mod3Y (n : Int) (w : World) (hn : -9223372036854775808 ≤ n) (hn' : n ≤ 9223372036854775807) :
    Calls Tryd.prog 5 #[.int .i64 n, .int .i64 3] w fun e w' => e = .returned (.int .i64 (n % 3)) ∧ w = w' := by
  have h0 := Lib.hid (tmod_emodY n 3 (by omega))
  have b1 := Int.tmod_lt_of_pos n (show (0 : Int) < 3 by omega)
  have b2 := Int.lt_tmod_of_pos n (show (0 : Int) < 3 by omega)
  go_enter Tryd.func5, Tryd.ntmps5
  go_wp2_with fail
  all_goals go_ret
  all_goals refine ⟨congrArg (fun x => Ending.returned (.int .i64 x)) ?_, rfl⟩
  · rename_i hq
    have := h0.out
    rw [if_pos hq] at this
    exact this.symm
  · rename_i hq
    have := h0.out
    rw [if_neg (by omega)] at this
    exact this.symm
end Go.Proofs.YtcgchacokcnacaaDoor
