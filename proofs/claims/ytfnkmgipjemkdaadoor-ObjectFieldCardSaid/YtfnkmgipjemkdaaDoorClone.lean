/- slices.Clone of bytes. -/
import Derived.Test.YtfnkmgipjemkdaaDoorArith
import Derived.Test.YtfnkmgipjemkdaaDoorChecked
import Derived.WalkKit
import Derived.WalkSpells
import Derived.WalkLawsBesides
import Derived.Lib.Hide
namespace Go.Proofs.YtfnkmgipjemkdaaDoor
open Go Go.RowKit
set_option linter.unusedVariables false

def Cloned (xs : List Nat) (w : World) (e : Ending) (w' : World) : Prop :=
  ∃ g c, e = .returned (.slice (some ⟨g, 0, none⟩) xs.length c) ∧ w.heap.size ≤ g ∧ xs.length ≤ c ∧ Row w' g 5 .u8 xs ∧ Below w.heap.size w w'

theorem info8 : (Tryd.prog.info? 5).map (fun i => (i.zero, i.size, i.bytes)) = some (some (.int .u8 0), 1, 1) := by kernel_rfl

theorem cloned_of {w w0 w1 : World} {n : Nat} {xs : List Nat} {v : Value} (hn : xs.length = n) (hb : Below w.heap.size w w0) (hs : w.heap.size ≤ w0.heap.size)
    (hown : w1.ownsRow w.heap.size 5 1 v n (xs.map fun d : Nat => Value.int .u8 (d : Int))) (hg : w0.grownBy w1 (some w.heap.size)) (hv : v = .slice none 0 0 → False) : Cloned xs w (.returned v) w1 := by
  obtain ⟨A, c, rfl⟩ : ∃ A c, v = .slice A n c := by
    rcases hown.2 with ⟨h1, h2⟩ | ⟨g, cap, cur, h1, _⟩
    · exact absurd h1 (fun h => hv h)
    · exact ⟨_, _, h1⟩
  have hA : A ≠ none := by
    rintro rfl
    rcases hown.2 with ⟨h1, h2⟩ | ⟨g, cap, cur, h1, _⟩
    · exact hv h1
    · injection h1 with h1; cases h1
  obtain ⟨g, rfl, hbg, hnc, hrow⟩ := Row.of_own hown hA
  exact ⟨g, c, by rw [hn], hbg, by omega, hrow, hb.grown hg hs (fun k hk => by injection hk with hk; omega)⟩

set_option maxHeartbeats 400000 in
set_option maxRecDepth 100000 in
theorem clone_some (x : Addr) (n c : Nat) (xs : List Nat) (w : World) (hn : Hid (xs.length = n)) (h : Reads w w.heap.size .u8 (some x) xs) (h9 : n ≤ 10000000000) :
    Calls Tryd.prog 55 #[.slice (some x) n c] w (Cloned xs w) := by
  have heq := fun W : World => Lib.run_eql_slice_nil (P := Tryd.prog) W 57 5 (some x) n c 0 0 Tryd.underlying57
  have hcells := Lib.hid (h.alloc (Nat.le_refl _) (.cells #[] 5)).cells
  obtain ⟨i0, hi, hz0, hz1, hz2⟩ := info_parts info8
  replace hi := Lib.hid hi
  replace hz0 := Lib.hid hz0
  replace hz1 := Lib.hid hz1
  replace hz2 := Lib.hid hz2
  go_enter Tryd.func55, Tryd.ntmps55
  go_wp2_with (at_builtin; refine wpList_append_own _ rfl (.tmp 5) (.tmp 6) 57 rfl w.heap.size 5 i0 (.int .u8 0) 1 1 Tryd.underlying57 hi.out hz0.out hz1.out hz2.out rfl (by decide) _ 0 [] rfl (World.ownsRow_made w #[] 0 (Nat.le_refl _) (by decide) rfl) x n c (xs.map fun d : Nat => Value.int .u8 (d : Int)) rfl ?c1 hcells.out (one_cells _ _) ?c2 ?c3 ?c4 ?_)
  case c1 => have := hn.out; simpa using this
  case c2 => unfold maxLen; omega
  case c3 => omega
  case c4 => simp
  intro v1 w1 hown hg hnil
  clear heq
  replace hown := Lib.hid hown
  replace hg := Lib.hid hg
  replace hnil := Lib.hid hnil
  go_wp2
  go_ret
  exact cloned_of (v := v1) hn.out ((Below.refl _ _).alloc (Nat.le_refl _) _) (by simp) hown.out hg.out hnil.out

end Go.Proofs.YtfnkmgipjemkdaaDoor
