/- number.subtractNaturals: the digits of the difference. -/
import Derived.Test.YtfnkmgipjemkdaaDoorTake
import Derived.Test.YtfnkmgipjemkdaaDoorClone
namespace Go.Proofs.YtfnkmgipjemkdaaDoor
open Go Go.RowKit
set_option linter.unusedVariables false

set_option maxHeartbeats 400000 in
set_option maxRecDepth 100000 in
theorem clone_none (c : Nat) (w : World) :
    Calls Tryd.prog 55 #[.slice none 0 c] w fun e w' => e = .returned (.slice none 0 0) ∧ w = w' := by
  have heq := fun W : World => Lib.run_eql_slice_nil (P := Tryd.prog) W 57 5 none 0 c 0 0 Tryd.underlying57
  go_enter Tryd.func55, Tryd.ntmps55
  go_wp2
  go_ret
  exact ⟨rfl, rfl⟩

set_option maxHeartbeats 400000 in
set_option maxRecDepth 100000 in
theorem takeAway_nil (A A' : Option Addr) (c b d : Nat) (w : World) :
    Calls Tryd.prog 57 #[.slice A 0 c, .slice A' b d] w fun e w' => e = .returned (.tuple #[]) ∧ w = w' := by
  go_enter Tryd.func57, Tryd.ntmps57
  go_wp2
  go_loopw [9] (fun v wr => v = .int .i64 0 ∧ wr = w) (fun _ _ => 0)
  case atStart => exact ⟨rfl, rfl⟩
  case round =>
    obtain ⟨rfl, rfl⟩ := hrel
    go_wp2
    go_end0
    exact ⟨rfl, rfl⟩

set_option maxHeartbeats 400000 in
set_option maxRecDepth 100000 in
theorem sub_nil (A' : Option Addr) (c b d : Nat) (w : World) :
    Calls Tryd.prog 63 #[.slice none 0 c, .slice A' b d] w (RetD .u8 w 0) := by
  go_enter Tryd.func63, Tryd.ntmps63
  go_wp2_with (first | (go_at_call 55; refine (clone_none _ _).mono ?_; rintro e w' ⟨rfl, rfl⟩) | (go_at_call 57; refine (takeAway_nil _ _ _ _ _ _).mono ?_; rintro e w' ⟨rfl, rfl⟩) | (go_at_call 54; refine (trim_any _ [] 0 0 0 _ 0 rfl rfl Reads.nil_ (fun _ h => by cases h) (by omega) (by omega)).mono ?_; rintro e w' ⟨rfl, rfl⟩))
  go_ret
  exact ⟨none, 0, rfl, Nat.le_refl _, Reads.nil_, Below.refl _ _⟩

set_option maxHeartbeats 400000 in
set_option maxRecDepth 100000 in
theorem sub_some (x : Addr) (A' : Option Addr) (n m a b c d : Nat) (w : World) (ha : LenIs n a) (hb : LenIs m b) (h : Reads w w.heap.size .u8 (some x) (digs n)) (h' : Reads w w.heap.size .u8 A' (digs m)) (h9 : a ≤ 10000000000) (hmn : m ≤ n) :
    Calls Tryd.prog 63 #[.slice (some x) a c, .slice A' b d] w (RetD .u8 w (n - m)) := by
  go_enter Tryd.func63, Tryd.ntmps63
  go_wp2_with fail
  refine (clone_some x a c (digs n) _ ha h h9).mono ?_
  rintro e w1 ⟨g, c1, rfl, hg, hc1, hrow, hbel⟩
  have h1 := h'.below hbel
  have e1 : Hid ((digs n).length = a) := ha
  rw [e1.out] at hc1 ⊢
  clear h h'
  go_wp2_with fail
  refine (takeAway_any g [] (digs n) [] A' m 0 a b c1 d w.heap.size _ rfl ha hb (by simpa using hrow) (allDig_digs n) h1 hg (by rw [ofD_digs]; exact hmn) h9).mono ?_
  rintro e w2 ⟨rfl, ss, hss, hds, hval, hrow2, honly⟩
  rw [ofD_digs] at hval
  simp only [List.nil_append, List.append_nil] at hrow2
  have hlt := hrow2.lt
  have hvv : ofD ss = n - m := by omega
  have hss2 : ss.length = a := by rw [hss]; exact ha
  replace hval := Lib.hid hval
  replace hss := Lib.hid hss
  replace hvv := Lib.hid hvv
  replace hss2 := Lib.hid hss2
  go_wp2_with fail
  refine (trim_any _ ss (n - m) a c1 _ _ hvv.out hss2.out (hrow2.reads hlt) hds hc1 h9).mono ?_
  rintro e w3 ⟨rfl, rfl⟩
  go_wp2
  go_ret
  exact ⟨_, _, rfl, Nat.le_trans (digs_length_mono (Nat.sub_le n m)) (by rw [e1.out]; exact hc1), (hrow2.reads hlt).of_digs hds hvv.out, hbel.trans (honly.below hg)⟩

theorem subNat_any (A A' : Option Addr) (n m a b c d : Nat) (w : World) (ha : LenIs n a) (hb : LenIs m b) (h : Reads w w.heap.size .u8 A (digs n)) (h' : Reads w w.heap.size .u8 A' (digs m)) (h9 : a ≤ 10000000000) (hmn : m ≤ n) :
    Calls Tryd.prog 63 #[.slice A a c, .slice A' b d] w (RetD .u8 w (n - m)) := by
  cases A with
  | some x => exact sub_some x A' n m a b c d w ha hb h h' h9 hmn
  | none =>
    have hn : n = 0 := by
      rcases Nat.eq_zero_or_pos (digs n).length with h0 | h0
      · exact digs_length_zero.1 h0
      · obtain ⟨_, _, e, _⟩ := h h0
        cases e
    subst hn
    obtain rfl : a = 0 := ha.symm
    rw [Nat.zero_sub]
    exact sub_nil A' c b d w

end Go.Proofs.YtfnkmgipjemkdaaDoor
