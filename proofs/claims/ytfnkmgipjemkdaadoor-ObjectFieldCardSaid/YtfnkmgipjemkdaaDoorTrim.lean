/- number.trim: the digits without the zeros at the end. -/
import Derived.Test.YtfnkmgipjemkdaaDoorMem
import Derived.Test.YtfnkmgipjemkdaaDoorChecked
import Derived.WalkKit
import Derived.WalkSpells
import Derived.WalkLawsBesides
import Derived.Lib.Hide
namespace Go.Proofs.YtfnkmgipjemkdaaDoor
open Go Go.RowKit
set_option linter.unusedVariables false

/-- From n on the list holds zeros. -/
def Zs (xs : List Nat) (n : Nat) : Prop := ∀ j, n ≤ j → j < xs.length → xs.getD j 0 = 0

theorem Zs.done {xs : List Nat} {n : Nat} (h : Zs xs n) (ha : AllDig xs) (hn : n ≤ xs.length) (ht : n = 0 ∨ xs.getD (n - 1) 0 ≠ 0) : (digs (ofD xs)).length = n := by
  rw [← digs_of_take ha n hn h ht, List.length_take]
  omega
theorem Zs.down {xs : List Nat} {n : Nat} (h : Zs xs n) (h0 : xs.getD (n - 1) 0 = 0) : Zs xs (n - 1) := by
  intro j hj hl
  by_cases e : j = n - 1
  · rw [e]; exact h0
  · exact h j (by omega) hl

set_option maxHeartbeats 400000 in
set_option maxRecDepth 100000 in
theorem trim_any (A : Option Addr) (xs : List Nat) (v n c : Nat) (w : World) (B : Nat) (hv : ofD xs = v) (hn : xs.length = n) (h : Reads w B .u8 A xs) (ha : AllDig xs) (hl : n ≤ c) (hc : n ≤ 10000000000) :
    Calls Tryd.prog 54 #[.slice A n c] w fun e w' => e = .returned (.slice A (digs v).length c) ∧ w = w' := by
  subst hv
  have Hn := Lib.hid hn
  clear hn
  go_enter Tryd.func54, Tryd.ntmps54
  go_wp2
  go_loop [3] (fun v => ∃ k : Nat, k ≤ n ∧ v = .int .i64 k ∧ Hid (Zs xs k)) (fun v => (intOf v).toNat)
  case atStart => exact ⟨n, Nat.le_refl _, rfl, fun j hj hl' => by have := Hn.out; omega⟩
  case round =>
    obtain ⟨k, hk, rfl, hz⟩ := hrel
    by_cases hk0 : k = 0
    · subst hk0
      go_wp2
      go_ret
      exact ⟨ret_slice ((hz.out).done ha (by have := Hn.out; omega) (.inl rfl)).symm, rfl⟩
    · obtain ⟨b, o, hA, hB, hcell⟩ := h (by have := Hn.out; omega)
      replace hcell := hcell (k - 1) (by have := Hn.out; omega)
      clear h
      subst hA
      by_cases hd : xs.getD (k - 1) 0 = 0
      · have hd1 : (dg xs (k - 1) == 0) = true := by unfold dg; rw [hd]; rfl
        have Hd := Lib.hid hd
        clear hd
        go_wp2
        go_round
        case rel => exact ⟨k - 1, by omega, by go_num, (hz.out).down Hd.out⟩
        case measure => simp [intOf]; omega
      · have hd1 : (dg xs (k - 1) == 0) = false := by rw [beq_eq_false_iff_ne]; unfold dg; omega
        have Hd := Lib.hid hd
        clear hd
        go_wp2
        go_ret
        exact ⟨ret_slice ((hz.out).done ha (by have := Hn.out; omega) (.inr Hd.out)).symm, rfl⟩
end Go.Proofs.YtfnkmgipjemkdaaDoor
