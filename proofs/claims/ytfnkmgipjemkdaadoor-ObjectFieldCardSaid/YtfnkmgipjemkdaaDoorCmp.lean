/- number.compareNaturals: the order of two natural numbers by their digits. -/
import Derived.Test.YtfnkmgipjemkdaaDoorMem
import Derived.Test.YtfnkmgipjemkdaaDoorChecked
import Derived.WalkKit
import Derived.WalkSpells
import Derived.WalkLawsBesides
import Derived.Lib.Hide
import Derived.Deep.QuietTactic
import Derived.BigQuiet
namespace Go.Proofs.YtfnkmgipjemkdaaDoor
open Go Go.RowKit
set_option linter.unusedVariables false

/-- The places from k on hold the same. -/
def TopEq (xs ys : List Nat) (k : Nat) : Prop := xs.drop k = ys.drop k

theorem TopEq.start {xs ys : List Nat} (h : xs.length = ys.length) : TopEq xs ys xs.length := by
  unfold TopEq; rw [List.drop_eq_nil_of_le (Nat.le_refl _), List.drop_eq_nil_of_le (by omega)]
theorem TopEq.down {xs ys : List Nat} {k : Nat} (h : TopEq xs ys (k + 1)) (hx : k < xs.length) (hy : k < ys.length) (e : dg xs k = dg ys k) : TopEq xs ys k := by
  unfold TopEq at *
  rw [List.drop_eq_getElem_cons hx, List.drop_eq_getElem_cons hy, h]
  unfold dg at e
  rw [List.getD_eq_getElem?_getD, List.getD_eq_getElem?_getD, List.getElem?_eq_getElem hx, List.getElem?_eq_getElem hy] at e
  simp only [Option.getD_some] at e
  congr 1
  omega
theorem ord_digs_lt {n m k : Nat} (h : TopEq (digs n) (digs m) (k + 1)) (hl : (digs n).length = (digs m).length) (hk : k < (digs n).length) (e : dg (digs n) k < dg (digs m) k) : n < m := by
  have := ofD_lt_of_top (allDig_digs n) k hl hk h (by unfold dg at e; omega)
  rwa [ofD_digs, ofD_digs] at this
theorem TopEq.symm {xs ys : List Nat} {k : Nat} (h : TopEq xs ys k) : TopEq ys xs k := Eq.symm h

set_option maxHeartbeats 400000 in
set_option maxRecDepth 100000 in
theorem cmpNat_any (A A' : Option Addr) (n m a b c d : Nat) (w : World) (B : Nat) (ha : LenIs n a) (hb : LenIs m b) (h : Reads w B .u8 A (digs n)) (h' : Reads w B .u8 A' (digs m)) (hc : a ≤ 1000000000) (hd : b ≤ 1000000000) :
    Calls Tryd.prog 56 #[.slice A a c, .slice A' b d] w fun e w' => e = .returned (.int .i64 (ordN n m)) ∧ ∃ q, w' = w.drewN q := by
  by_cases h1 : a < b
  · have ho : n < m := lt_of_digs_length_lt (by unfold LenIs at ha hb; omega)
    go_enter Tryd.func56, Tryd.ntmps56
    go_wp2
    go_ret
    exact ⟨ret_int (ordN_lt ho).symm, 0, rfl⟩
  by_cases h2 : b < a
  · have ho : m < n := lt_of_digs_length_lt (by unfold LenIs at ha hb; omega)
    go_enter Tryd.func56, Tryd.ntmps56
    go_wp2
    go_ret
    exact ⟨ret_int (ordN_gt ho).symm, 0, rfl⟩
  obtain rfl : a = b := by omega
  clear h1 h2
  go_enter Tryd.func56, Tryd.ntmps56
  go_wp2
  go_loopw [19] (fun v wr => ∃ k : Nat, k ≤ a ∧ v = .int .i64 k ∧ Hid (TopEq (digs n) (digs m) (a - k)) ∧ ∃ q, wr = w.drewN q) (fun v _ => a - (intOf v).toNat)
  case atStart => exact ⟨0, Nat.zero_le _, rfl, by have := TopEq.start (xs := digs n) (ys := digs m) (by unfold LenIs at ha hb; omega); rwa [show a - 0 = (digs n).length from by unfold LenIs at ha; omega], 0, rfl⟩
  case round =>
    obtain ⟨k, hk, rfl, ht, q, rfl⟩ := hrel
    by_cases hka : k < a
    · obtain ⟨b1, o1, rfl, hB1, hcell1⟩ := h (by unfold LenIs at ha; omega)
      obtain ⟨b2, o2, rfl, hB2, hcell2⟩ := h' (by unfold LenIs at hb; omega)
      replace hcell1 := hcell1 (a - 1 - k) (by unfold LenIs at ha; omega)
      replace hcell2 := hcell2 (a - 1 - k) (by unfold LenIs at hb; omega)
      have hp : (0 : Int) ≤ (a : Int) - 1 - k := by omega
      have hq : (a : Int) - 1 - k < a := by omega
      rcases Int.lt_trichotomy (dg (digs n) (a - 1 - k)) (dg (digs m) (a - 1 - k)) with hlt | heq | hgt
      · have ho : n < m := ord_digs_lt (k := a - 1 - k) (by rw [show a - 1 - k + 1 = a - k from by omega]; exact ht.out) (by unfold LenIs at ha hb; omega) (by unfold LenIs at ha; omega) hlt
        go_wp2
        go_quiet (fail)
        go_wp2
        go_ret
        exact ⟨ret_int (ordN_lt ho).symm, dr1 _ _ _⟩
      · have hn1 : ¬ dg (digs n) (a - 1 - k) < dg (digs m) (a - 1 - k) := by omega
        have hn2 : ¬ dg (digs m) (a - 1 - k) < dg (digs n) (a - 1 - k) := by omega
        have Heq := Lib.hid heq
        clear heq
        go_wp2
        go_quiet (fail)
        go_wp2
        go_quiet (fail)
        go_wp2
        go_roundw
        case rel => exact ⟨k + 1, by omega, by go_num, by rw [show a - (k + 1) = a - 1 - k from by omega]; exact TopEq.down (by rw [show a - 1 - k + 1 = a - k from by omega]; exact ht.out) (by unfold LenIs at ha; omega) (by unfold LenIs at hb; omega) Heq.out, _, rfl⟩
        case measure => simp [intOf]; omega
      · have ho : m < n := ord_digs_lt (k := a - 1 - k) (by rw [show a - 1 - k + 1 = a - k from by omega]; exact ht.out.symm) (by unfold LenIs at ha hb; omega) (by unfold LenIs at hb; omega) hgt
        have hn1 : ¬ dg (digs n) (a - 1 - k) < dg (digs m) (a - 1 - k) := by omega
        go_wp2
        go_quiet (fail)
        go_wp2
        go_quiet (fail)
        go_wp2
        go_ret
        exact ⟨ret_int (ordN_gt ho).symm, dr2 _ _ _ _⟩
    · have ho : n = m := by
        have := ht.out
        rw [show a - k = 0 from by omega] at this
        exact digs_inj this
      have Ho := Lib.hid ho
      clear ho
      go_wp2
      go_ret
      exact ⟨ret_int (ordN_eq Ho.out).symm, _, rfl⟩
end Go.Proofs.YtfnkmgipjemkdaaDoor
