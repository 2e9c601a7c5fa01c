/- The reference's trim, order, plus, minus: digits in slices of integers. -/
import Derived.Test.YtclniebhgfodfaaDoorArith
import Derived.Test.YtclniebhgfodfaaDoorTrim
import Derived.Test.YtclniebhgfodfaaDoorCmp
import Derived.Test.YtclniebhgfodfaaDoorDivMath
import Derived.Maps.AppendAt
import Derived.OwnWalk
namespace Go.Proofs.YtclniebhgfodfaaDoor
open Go Go.RowKit
set_option linter.unusedVariables false

set_option maxHeartbeats 400000 in
theorem trimR (A : Option Addr) (xs : List Nat) (v n c : Nat) (w : World) (B : Nat) (hv : ofD xs = v) (hn : xs.length = n) (h : Reads w B .i64 A xs) (ha : AllDig xs) (hl : n ≤ c) (hc : n ≤ 10000000000) :
    Calls Tryd.prog 63 #[.slice A n c] w fun e w' => e = .returned (.slice A (digs v).length c) ∧ w = w' := by
  subst hv
  have Hn := Lib.hid hn
  clear hn
  go_enter Tryd.func63, Tryd.ntmps63
  go_wp2
  go_loop [3] (fun v => ∃ k : Nat, k ≤ n ∧ v = .int .i64 k ∧ Hid (Zs xs k)) (fun v => (intOf v).toNat)
  case atStart => exact ⟨n, Nat.le_refl _, rfl, fun j hj hl' => by have := Hn.out; omega⟩
  case round =>
    obtain ⟨k, hk, rfl, hz⟩ := hrel
    by_cases hk0 : k = 0
    · subst hk0
      go_wp2
      go_ret
      exact ⟨ret_slice ((hz.out).done ha (by have := Hn.out; omega) (.inl rfl)).symm, rfl⟩
    · obtain ⟨b, o, hA, hB, hcell⟩ := h (by have := Hn.out; omega)
      replace hcell := hcell (k - 1) (by have := Hn.out; omega)
      clear h
      subst hA
      by_cases hd : xs.getD (k - 1) 0 = 0
      · have hd1 : (dg xs (k - 1) == 0) = true := by unfold dg; rw [hd]; rfl
        have Hd := Lib.hid hd
        clear hd
        go_wp2
        go_round
        case rel => exact ⟨k - 1, by omega, by go_num, (hz.out).down Hd.out⟩
        case measure => simp [intOf]; omega
      · have hd1 : (dg xs (k - 1) == 0) = false := by rw [beq_eq_false_iff_ne]; unfold dg; omega
        have Hd := Lib.hid hd
        clear hd
        go_wp2
        go_ret
        exact ⟨ret_slice ((hz.out).done ha (by have := Hn.out; omega) (.inr Hd.out)).symm, rfl⟩
set_option maxHeartbeats 1000000 in
theorem orderR (A A' : Option Addr) (n m a b c d : Nat) (w : World) (B : Nat) (ha : LenIs n a) (hb : LenIs m b) (h : Reads w B .i64 A (digs n)) (h' : Reads w B .i64 A' (digs m)) (hc : a ≤ 10000000000) (hd : b ≤ 10000000000) :
    Calls Tryd.prog 44 #[.slice A a c, .slice A' b d] w fun e w' => e = .returned (.int .i64 (ordN n m)) ∧ ∃ q, w' = w.drewN q := by
  by_cases h1 : a < b
  · have ho : n < m := lt_of_digs_length_lt (by unfold LenIs at ha hb; omega)
    have hd1 : ((a : Int) == (b : Int)) = false := by rw [beq_eq_false_iff_ne]; omega
    have hd2 : decide (a < b) = true := by simpa using h1
    go_enter Tryd.func44, Tryd.ntmps44
    go_wp2
    go_ret
    exact ⟨ret_int (ordN_lt ho).symm, 0, rfl⟩
  by_cases h2 : b < a
  · have ho : m < n := lt_of_digs_length_lt (by unfold LenIs at ha hb; omega)
    have hd1 : ((a : Int) == (b : Int)) = false := by rw [beq_eq_false_iff_ne]; omega
    go_enter Tryd.func44, Tryd.ntmps44
    go_wp2
    go_ret
    exact ⟨ret_int (ordN_gt ho).symm, 0, rfl⟩
  obtain rfl : a = b := by omega
  clear h1 h2
  have hd1 : ((a : Int) == (a : Int)) = true := by simp
  go_enter Tryd.func44, Tryd.ntmps44
  go_wp2
  go_loopw [5] (fun v wr => ∃ k : Nat, k ≤ a ∧ v = .int .i64 ((k : Int) - 1) ∧ Hid (TopEq (digs n) (digs m) k) ∧ ∃ q, wr = w.drewN q) (fun v _ => (intOf v + 1).toNat)
  case atStart => exact ⟨a, Nat.le_refl _, rfl, by have := TopEq.start (xs := digs n) (ys := digs m) (by unfold LenIs at ha hb; omega); rwa [show (digs n).length = a from ha] at this, 0, rfl⟩
  case round =>
    obtain ⟨k, hk, rfl, ht, q, rfl⟩ := hrel
    by_cases hka : 0 < k
    · obtain ⟨b1, o1, rfl, hB1, hcell1⟩ := h (by unfold LenIs at ha; omega)
      obtain ⟨b2, o2, rfl, hB2, hcell2⟩ := h' (by unfold LenIs at hb; omega)
      replace hcell1 := hcell1 (k - 1) (by unfold LenIs at ha; omega)
      replace hcell2 := hcell2 (k - 1) (by unfold LenIs at hb; omega)
      have hp : (0 : Int) ≤ (k : Int) - 1 := by omega
      have hq : (k : Int) - 1 < a := by omega
      rcases Int.lt_trichotomy (dg (digs n) (k - 1)) (dg (digs m) (k - 1)) with hlt | heq | hgt
      · have ho : n < m := ord_digs_lt (k := k - 1) (by rw [show k - 1 + 1 = k from by omega]; exact ht.out) (by unfold LenIs at ha hb; omega) (by unfold LenIs at ha; omega) hlt
        go_wp2
        go_quiet (fail)
        go_wp2
        go_ret
        exact ⟨ret_int (ordN_lt ho).symm, dr1 _ _ _⟩
      · have hn1 : ¬ dg (digs n) (k - 1) < dg (digs m) (k - 1) := by omega
        have hn2 : ¬ dg (digs m) (k - 1) < dg (digs n) (k - 1) := by omega
        have Heq := Lib.hid heq
        clear heq
        go_wp2
        go_quiet (fail)
        go_wp2
        go_quiet (fail)
        go_wp2
        go_roundw
        case rel => exact ⟨k - 1, by omega, by go_num, TopEq.down (by rw [show k - 1 + 1 = k from by omega]; exact ht.out) (by unfold LenIs at ha; omega) (by unfold LenIs at hb; omega) Heq.out, _, rfl⟩
        case measure => simp [intOf]; omega
      · have ho : m < n := ord_digs_lt (k := k - 1) (by rw [show k - 1 + 1 = k from by omega]; exact ht.out.symm) (by unfold LenIs at ha hb; omega) (by unfold LenIs at hb; omega) hgt
        have hn1 : ¬ dg (digs n) (k - 1) < dg (digs m) (k - 1) := by omega
        go_wp2
        go_quiet (fail)
        go_wp2
        go_quiet (fail)
        go_wp2
        go_ret
        exact ⟨ret_int (ordN_gt ho).symm, dr2 _ _ _ _⟩
    · have ho : n = m := by
        have := ht.out
        rw [show k = 0 from by omega] at this
        exact digs_inj this
      have Ho := Lib.hid ho
      clear ho
      go_wp2
      go_ret
      exact ⟨ret_int (ordN_eq Ho.out).symm, _, rfl⟩

/-- The cells of numbers in a slice of integers. -/
def ci (xs : List Nat) : List Value := xs.map fun d : Nat => Value.int .i64 (d : Int)
/-- The value v is a slice of the call's own (blocks from B on) that holds the numbers xs. -/
def Own (w : World) (B : Nat) (v : Value) (xs : List Nat) : Prop := w.ownsRow B 3 1 v xs.length (ci xs)
theorem Own.nil_ (w : World) (B : Nat) : Own w B (.slice none 0 0) [] := World.ownsRow_nil w B 3 1
theorem Own.snoc {w : World} {B n : Nat} {v : Value} {xs : List Nat} {x : Int} {d : Nat} (h : w.ownsRow B 3 1 v (n + 1) (ci xs ++ [.int .i64 x])) (hn : xs.length = n) (hx : x = (d : Int)) : Own w B v (xs ++ [d]) := by
  subst hn hx
  unfold Own
  have e : ci (xs ++ [d]) = ci xs ++ [.int .i64 (d : Int)] := by unfold ci; simp
  rw [e, List.length_append]
  exact h
theorem Own.formF {w : World} {B : Nat} {v : Value} {xs : List Nat} (h : Own w B v xs) : ∃ A c, v = .slice A xs.length c ∧ xs.length ≤ c ∧ Reads w w.heap.size .i64 A xs ∧ ∀ x, A = some x → B ≤ x.block := by
  by_cases hv : ∃ A c, v = .slice A xs.length c ∧ A ≠ none
  · obtain ⟨A, c, rfl, hA⟩ := hv
    obtain ⟨g, rfl, hg, hc, hrow⟩ := Row.of_own h hA
    exact ⟨_, _, rfl, hc, hrow.reads hrow.lt, fun x hx => by injection hx with hx; subst hx; exact hg⟩
  · rcases h.2 with ⟨rfl, h0⟩ | ⟨g, cap, cur, rfl, _⟩
    · have hx : xs = [] := List.length_eq_zero_iff.1 h0
      subst hx
      exact ⟨none, 0, rfl, Nat.le_refl _, Reads.nil_, fun x hx => by cases hx⟩
    · exact absurd ⟨_, _, rfl, by simp⟩ hv
theorem Own.form {w : World} {B : Nat} {v : Value} {xs : List Nat} (h : Own w B v xs) : ∃ A c, v = .slice A xs.length c ∧ xs.length ≤ c ∧ Reads w w.heap.size .i64 A xs := by
  obtain ⟨A, c, h1, h2, h3, _⟩ := h.formF
  exact ⟨A, c, h1, h2, h3⟩
/-- A store elsewhere. -/
theorem Reads.far {w : World} {B g : Nat} {k : IntKind} {A : Option Addr} {xs : List Nat} (h : Reads w B k A xs) (hA : ∀ x, A = some x → g < x.block) (j : Nat) (u : Value) : Reads (w.setCell ⟨g, j, none⟩ u) B k A xs := fun hn => by
  obtain ⟨b, o, e, hb, hc⟩ := h hn
  have hg := hA _ e
  refine ⟨b, o, e, hb, fun i hi => ?_⟩
  rw [World.cell?_setCell_other _ _ _ _ (by intro e2; injection e2 with e3; simp only at hg; omega)]
  exact hc i hi
/-- The call returned a slice of digits that lies in memory that the call made. -/
def RetF (k : IntKind) (w : World) (n : Nat) (e : Ending) (w' : World) : Prop :=
  ∃ A c, e = .returned (.slice A (digs n).length c) ∧ (digs n).length ≤ c ∧ Reads w' w'.heap.size k A (digs n) ∧ Below w.heap.size w w' ∧ ∀ x, A = some x → w.heap.size ≤ x.block
theorem RetF.plain {k : IntKind} {w w' : World} {n : Nat} {e : Ending} (h : RetF k w n e w') : RetD k w n e w' := by
  obtain ⟨A, c, h1, h2, h3, h4, _⟩ := h
  exact ⟨A, c, h1, h2, h3, h4⟩

theorem infoI : (Tryd.prog.info? 3).map (fun i => (i.zero, i.size, i.bytes)) = some (some (.int .i64 0), 1, 8) := by kernel_rfl

/-- The call returned a slice of integers, digits of n, perhaps with zeros at the end. -/
def RetL (w : World) (N n : Nat) (e : Ending) (w' : World) : Prop :=
  ∃ A c zs, e = .returned (.slice A zs.length c) ∧ zs.length ≤ c ∧ zs.length ≤ N ∧ AllDig zs ∧ ofD zs = n ∧ Reads w' w'.heap.size .i64 A zs ∧ Below w.heap.size w w'

end Go.Proofs.YtclniebhgfodfaaDoor
