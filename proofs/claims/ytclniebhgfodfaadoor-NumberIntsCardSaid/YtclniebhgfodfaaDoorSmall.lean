/- number.Small and the reference's Small. -/
import Derived.Test.YtclniebhgfodfaaDoorFirst
namespace Go.Proofs.YtclniebhgfodfaaDoor
open Go Go.RowKit
set_option linter.unusedVariables false

def isSmall (l : List UInt8) : Bool := decide ((body l).length ≤ 9)
def smallVal (l : List UInt8) : Int := if isSmall l then val l else 0

/-- The number that the first k digits of a text stand for. -/
def headVal (t : ByteArray) (k : Nat) : Nat := ofD (toDigs ((LA t).take k))
theorem headVal_zero (t : ByteArray) : headVal t 0 = 0 := by unfold headVal; rfl
theorem toDigs_snoc (l : List UInt8) (c : UInt8) : toDigs (l ++ [c]) = (c.toNat - 48) :: toDigs l := by
  unfold toDigs
  rw [List.reverse_append]
  rfl
theorem headVal_step {t : ByteArray} {k : Nat} (h : k < t.size) : headVal t (k + 1) = (t[k].toNat - 48) + 10 * headVal t k := by
  unfold headVal
  rw [List.take_add_one, LA_get t k h]
  show ofD (toDigs ((LA t).take k ++ [t[k]])) = _
  rw [toDigs_snoc, ofD]
theorem headVal_all (t : ByteArray) : headVal t t.size = ofD (toDigs (LA t)) := by
  unfold headVal
  rw [List.take_of_length_le (by rw [LA_length]; exact Nat.le_refl _)]
theorem headVal_lt {t : ByteArray} (h : (LA t).all isDig = true) {k : Nat} (hk : k ≤ 9) : headVal t k < 1000000000 := by
  have h1 : ((LA t).take k).all isDig = true := by
    rw [List.all_eq_true] at h ⊢
    exact fun x hx => h x (List.mem_of_mem_take hx)
  have h2 := ofD_toDigs_lt h1
  have h3 : ((LA t).take k).length ≤ 9 := by rw [List.length_take]; omega
  have h4 : 10 ^ ((LA t).take k).length ≤ 10 ^ 9 := Nat.pow_le_pow_right (by decide) h3
  unfold headVal
  omega

/-- The call returned a number and a bool. -/
def RetNB (w : World) (x : Int) (b : Bool) (e : Ending) (w' : World) : Prop := e = .returned (.tuple #[.int .i64 x, .bool b]) ∧ Below w.heap.size w w'

set_option maxHeartbeats 2000000 in
theorem small_any (s : ByteArray) (w : World) (hs : s.size ≤ 400000000) :
    Calls Tryd.prog 15 #[.string s] w (RetNB w (smallVal (LA s)) (isSmall (LA s))) := by
  obtain ⟨t, ht⟩ : ∃ t, BA (body (LA s)) = t := ⟨_, rfl⟩
  have hbt : Hid (LA t = body (LA s)) := by show _ = _; rw [← ht]; rfl
  have hts : t.size ≤ 1000000000 := by have := body_length (LA s); rw [← LA_length, hbt.out]; rw [LA_length] at this; omega
  have hlen : (body (LA s)).length = t.size := by rw [← hbt.out, LA_length]
  have Ht := Lib.hid ht
  clear ht
  by_cases h9 : t.size ≤ 9
  · have hsm : isSmall (LA s) = true := by unfold isSmall; rw [hlen]; exact decide_eq_true h9
    have hsv : smallVal (LA s) = val (LA s) := by unfold smallVal; rw [hsm]; rfl
    have hall : Hid ((LA t).all isDig = true) := by show _ = _; rw [hbt.out]; exact body_all _
    have hmag : Hid (headVal t t.size = mag (LA s)) := by show _ = _; rw [headVal_all, hbt.out]; rfl
    rw [hsm, hsv]
    clear hsm hsv hlen
    cases hn : neg (LA s) with
    | false =>
      have hv : Hid (val (LA s) = (mag (LA s) : Int)) := by show _ = _; rw [val_eq, hn]; rfl
      replace hn := Lib.hid hn
      rw [hv.out]
      go_enter Tryd.func15, Tryd.ntmps15
      go_wp2_with fail
      refine (split_any s _ (by unfold maxLen; omega)).mono ?_
      rintro e w' ⟨rfl, rfl⟩
      rw [Ht.out, hn.out]
      go_wp2
      go_loop [6, 18] (fun u v => ∃ k : Nat, k ≤ t.size ∧ v = .int .i64 k ∧ u = .int .i64 (headVal t k : Nat)) (fun _ v => t.size - (intOf v).toNat)
      case atStart => exact ⟨0, Nat.zero_le _, rfl, by rw [headVal_zero]; rfl⟩
      obtain ⟨k, hk, rfl, rfl⟩ := hrel
      by_cases hkt : k < t.size
      · obtain ⟨b1, b2⟩ := (isDig_iff _).1 (isDig_at hkt hall.out)
        have hv1 := headVal_lt hall.out (show k ≤ 9 by omega)
        have hstep : Hid (((headVal t (k + 1) : Nat) : Int) = 10 * ((headVal t k : Nat) : Int) + (((t[k]'hkt).toNat : Int) - 48)) := by show _ = _; rw [headVal_step hkt]; omega
        go_wp2
        go_round
        case rel => exact ⟨k + 1, by omega, by go_num, by rw [hstep.out]⟩
        case measure => simp [intOf]; omega
      · obtain rfl : k = t.size := by omega
        rw [hmag.out]
        go_wp2
        go_ret2
        exact ⟨rfl, Below.refl _ _⟩
    | true =>
      have hv : Hid (val (LA s) = -(mag (LA s) : Int)) := by show _ = _; rw [val_eq, hn]; rfl
      have hm9 : mag (LA s) < 1000000000 := by rw [← hmag.out]; exact headVal_lt hall.out h9
      replace hn := Lib.hid hn
      rw [hv.out]
      go_enter Tryd.func15, Tryd.ntmps15
      go_wp2_with fail
      refine (split_any s _ (by unfold maxLen; omega)).mono ?_
      rintro e w' ⟨rfl, rfl⟩
      rw [Ht.out, hn.out]
      go_wp2
      go_loop [6, 18] (fun u v => ∃ k : Nat, k ≤ t.size ∧ v = .int .i64 k ∧ u = .int .i64 (headVal t k : Nat)) (fun _ v => t.size - (intOf v).toNat)
      case atStart => exact ⟨0, Nat.zero_le _, rfl, by rw [headVal_zero]; rfl⟩
      obtain ⟨k, hk, rfl, rfl⟩ := hrel
      by_cases hkt : k < t.size
      · obtain ⟨b1, b2⟩ := (isDig_iff _).1 (isDig_at hkt hall.out)
        have hv1 := headVal_lt hall.out (show k ≤ 9 by omega)
        have hstep : Hid (((headVal t (k + 1) : Nat) : Int) = 10 * ((headVal t k : Nat) : Int) + (((t[k]'hkt).toNat : Int) - 48)) := by show _ = _; rw [headVal_step hkt]; omega
        go_wp2
        go_round
        case rel => exact ⟨k + 1, by omega, by go_num, by rw [hstep.out]⟩
        case measure => simp [intOf]; omega
      · obtain rfl : k = t.size := by omega
        rw [hmag.out]
        go_wp2
        go_ret2
        exact ⟨rfl, Below.refl _ _⟩
  · have hsm : isSmall (LA s) = false := by unfold isSmall; rw [hlen]; exact decide_eq_false h9
    have hsv : smallVal (LA s) = 0 := by unfold smallVal; rw [hsm]; rfl
    have h10 : 9 < t.size := by omega
    rw [hsm, hsv]
    clear hsm hsv hlen
    go_enter Tryd.func15, Tryd.ntmps15
    go_wp2_with fail
    refine (split_any s _ (by unfold maxLen; omega)).mono ?_
    rintro e w' ⟨rfl, rfl⟩
    rw [Ht.out]
    go_wp2
    go_ret2
    exact ⟨rfl, Below.refl _ _⟩

end Go.Proofs.YtclniebhgfodfaaDoor
