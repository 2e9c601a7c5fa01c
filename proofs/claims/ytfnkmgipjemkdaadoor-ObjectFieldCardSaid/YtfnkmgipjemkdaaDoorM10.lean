/- The reference's Valid and digits. -/
import Derived.Test.YtfnkmgipjemkdaaDoorSplit
import Derived.Test.YtfnkmgipjemkdaaDoorM9
namespace Go.Proofs.YtfnkmgipjemkdaaDoor
open Go Go.RowKit
set_option linter.unusedVariables false

theorem isMinus_at {s : ByteArray} (h : 0 < s.size) : (((s[0]'h).toNat : Int) == 45) = isMinus (LA s) := by
  obtain ⟨r, e⟩ := LA_ne (t := s) h
  rw [e]
  unfold isMinus
  simp only [List.head?_cons]
  rw [Bool.eq_iff_iff, beq_iff_eq, beq_iff_eq, Option.some.injEq]
  constructor
  · intro h1
    exact UInt8.toNat_inj.1 (by simp; omega)
  · intro h1
    rw [h1]; rfl
theorem drop_get {s : ByteArray} {f i : Nat} (hi : i < s.size) (hf : f ≤ i) : ((LA s).drop f)[i - f]? = some s[i] := by
  rw [List.getElem?_drop, show f + (i - f) = i from by omega]
  exact LA_get s i hi
theorem all_drop_step {s : ByteArray} {f i : Nat} (hi : i < s.size) (hf : f ≤ i) (ht : (((LA s).drop f).take (i - f)).all isDig = true) (hd : isDig s[i] = true) : (((LA s).drop f).take (i + 1 - f)).all isDig = true := by
  rw [show i + 1 - f = (i - f) + 1 from by omega, List.take_add_one, drop_get hi hf, List.all_append, ht]
  simp [hd]
theorem all_drop_not {s : ByteArray} {f i : Nat} (hi : i < s.size) (hf : f ≤ i) (hd : isDig s[i] = false) : ((LA s).drop f).all isDig = false := by
  rw [List.all_eq_false]
  exact ⟨s[i], List.mem_of_getElem? (drop_get hi hf), by simpa using hd⟩
theorem good_drop {s : ByteArray} {f : Nat} (h : f < s.size) (h48 : s[f] ≠ 48) : goodDigits ((LA s).drop f) = ((LA s).drop f).all isDig := by
  have hg := drop_get h (Nat.le_refl f)
  rw [Nat.sub_self] at hg
  cases hl : (LA s).drop f with
  | nil => rw [hl] at hg; cases hg
  | cons c r =>
    rw [hl] at hg
    simp only [List.getElem?_cons_zero, Option.some.injEq] at hg
    subst hg
    simp only [goodDigits, List.all_cons]
    rw [show (s[f] != 48) = true from by simpa using h48, Bool.true_and]
theorem good_drop48 {s : ByteArray} {f : Nat} (h : f < s.size) (h48 : s[f] = 48) : goodDigits ((LA s).drop f) = false := by
  have hg := drop_get h (Nat.le_refl f)
  rw [Nat.sub_self, h48] at hg
  cases hl : (LA s).drop f with
  | nil => rw [hl] at hg; cases hg
  | cons c r =>
    rw [hl] at hg
    simp only [List.getElem?_cons_zero, Option.some.injEq] at hg
    subst hg
    simp [goodDigits]
theorem good_drop_nil {s : ByteArray} {f : Nat} (h : s.size ≤ f) : goodDigits ((LA s).drop f) = false := by
  rw [List.drop_eq_nil_of_le (by rw [LA_length]; exact h)]; rfl

end Go.Proofs.YtfnkmgipjemkdaaDoor

/- The reference's digits: the sign and the digits of a text. -/
namespace Go.Proofs.YtfnkmgipjemkdaaDoor
open Go Go.RowKit
set_option linter.unusedVariables false

/-- The call returned a sign and a slice of digits. -/
def RetBD (w : World) (b : Bool) (n : Nat) (e : Ending) (w' : World) : Prop :=
  ∃ A c, e = .returned (.tuple #[.bool b, .slice A (digs n).length c]) ∧ (digs n).length ≤ c ∧ Reads w' w'.heap.size .i64 A (digs n) ∧ Below w.heap.size w w'

theorem dig_above {s : ByteArray} {f i : Nat} (hi : i < s.size) (hf : f ≤ i) (h : ((LA s).drop f).all isDig = true) : isDig s[i] = true :=
  List.all_eq_true.1 h _ (List.mem_of_getElem? (drop_get hi hf))
/-- The digits of the last bytes, the last first. -/
def lastDigs (s : ByteArray) (k : Nat) : List Nat := (toDigs (LA s)).take (s.size - k)
theorem lastDigs_start (s : ByteArray) : lastDigs s s.size = [] := by unfold lastDigs; rw [Nat.sub_self, List.take_zero]
theorem lastDigs_length {s : ByteArray} {k : Nat} (hk : k ≤ s.size) : (lastDigs s k).length = s.size - k := by
  unfold lastDigs
  rw [List.length_take, toDigs_length, LA_length]
  omega
theorem lastDigs_step {s : ByteArray} {k : Nat} (h0 : 0 < k) (hk : k - 1 < s.size) : lastDigs s (k - 1) = lastDigs s k ++ [s[k - 1].toNat - 48] := by
  unfold lastDigs
  rw [show s.size - (k - 1) = (s.size - k) + 1 from by omega, List.take_add_one]
  have h := toDigs_get hk
  rw [show s.size - 1 - (k - 1) = s.size - k from by omega, List.getD_eq_getElem?_getD] at h
  have hl : s.size - k < (toDigs (LA s)).length := by rw [toDigs_length, LA_length]; omega
  rw [List.getElem?_eq_getElem hl] at h ⊢
  simp only [Option.getD_some] at h
  rw [h]
  rfl
theorem lastDigs_end {s : ByteArray} {f : Nat} (hf : f ≤ s.size) : lastDigs s f = toDigs ((LA s).drop f) := by
  unfold lastDigs toDigs
  rw [← LA_length s] at hf ⊢
  generalize LA s = l at hf ⊢
  rw [← List.map_take, List.take_reverse, show l.length - (l.length - f) = f from by omega]

end Go.Proofs.YtfnkmgipjemkdaaDoor
