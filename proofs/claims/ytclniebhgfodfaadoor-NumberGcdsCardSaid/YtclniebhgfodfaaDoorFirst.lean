/- The statements' fixed checks: first and short. -/
import Derived.Test.YtclniebhgfodfaaDoorRefC
import Derived.Test.YtclniebhgfodfaaDoorComp
namespace Go.Proofs.YtclniebhgfodfaaDoor
open Go Go.RowKit
set_option linter.unusedVariables false

/-- The call returned this value, and what was there before stands. -/
def RetV (w : World) (v : Value) (e : Ending) (w' : World) : Prop := e = .returned v ∧ Below w.heap.size w w'
theorem RetS.lit {w w' : World} {x : Int} {e : Ending} {l : List UInt8} (h : RetS w x e w') (hx : text x = l) : RetV w (.string ⟨l.toArray⟩) e w' := by
  subst hx; exact h
theorem RetSS.lit {w w' : World} {x y : Int} {e : Ending} {l m : List UInt8} (h : RetSS w x y e w') (hx : text x = l) (hy : text y = m) : RetV w (.tuple #[.string ⟨l.toArray⟩, .string ⟨m.toArray⟩]) e w' := by
  subst hx hy; exact h

theorem c1 (w : World) : Calls Tryd.prog 33 #[.string ⟨#[45, 55]⟩, .string ⟨#[50]⟩] w (RetV w (.tuple #[.string ⟨#[45, 52]⟩, .string ⟨#[49]⟩])) :=
  (divide_any ⟨#[45, 55]⟩ ⟨#[50]⟩ w (by decide) (by decide) (by decide)).mono fun e w' h => RetSS.lit (l := [45, 52]) (m := [49]) h (by decide) (by decide)
theorem c2 (w : World) : Calls Tryd.prog 37 #[.string ⟨#[54]⟩, .string ⟨#[45, 52]⟩] w (RetV w (.tuple #[.string ⟨#[45, 51]⟩, .string ⟨#[50]⟩])) :=
  (reduce_pos ⟨#[54]⟩ ⟨#[45, 52]⟩ w (by decide) (by decide) (by decide)).mono fun e w' h => RetSS.lit (l := [45, 51]) (m := [50]) h (by decide) (by decide)
theorem c3 (w : World) : Calls Tryd.prog 27 #[.string ⟨#[57, 57, 57]⟩, .string ⟨#[50]⟩] w (RetV w (.string ⟨#[49, 48, 48, 49]⟩)) :=
  (add_any ⟨#[57, 57, 57]⟩ ⟨#[50]⟩ w (by decide) (by decide)).mono fun e w' h => RetS.lit (l := [49, 48, 48, 49]) h (by decide)
theorem c4 (w : World) : Calls Tryd.prog 31 #[.string ⟨#[45, 49, 50]⟩, .string ⟨#[49, 50]⟩] w (RetV w (.string ⟨#[45, 49, 52, 52]⟩)) :=
  (multiply_any ⟨#[45, 49, 50]⟩ ⟨#[49, 50]⟩ w (by decide) (by decide)).mono fun e w' h => RetS.lit (l := [45, 49, 52, 52]) h (by decide)
theorem c5 (w : World) : Calls Tryd.prog 17 #[.string ⟨#[48]⟩] w fun e w' => e = .returned (.bool true) ∧ w = w' :=
  (valid_any ⟨#[48]⟩ w (by decide)).mono fun e w' h => ⟨h.1.trans (ret_bool (by decide)), h.2⟩
theorem c6 (w : World) : Calls Tryd.prog 21 #[.int .i64 5] w fun e w' => e = .returned (.string ⟨#[53]⟩) ∧ w = w' :=
  (fromInt5 w).mono fun e w' h => ⟨h.1.trans (ret_string (show BA (text 5) = BA [53] by rw [show text 5 = [53] by decide])), h.2⟩

set_option maxHeartbeats 1000000 in
theorem first_any (w : World) : Calls Tryd.prog 13 #[] w (RetV w (.bool true)) := by
  go_enter Tryd.func13, Tryd.ntmps13
  go_wp2_with fail
  refine (c1 _).mono ?_
  rintro e w1 ⟨rfl, hb1⟩
  have h1 := hb1.size
  go_wp2_with fail
  refine (c2 _).mono ?_
  rintro e w2 ⟨rfl, hb2⟩
  have h2 := hb2.size
  go_wp2_with fail
  refine (c3 _).mono ?_
  rintro e w3 ⟨rfl, hb3⟩
  have h3 := hb3.size
  go_wp2_with fail
  refine (c4 _).mono ?_
  rintro e w4 ⟨rfl, hb4⟩
  have h4 := hb4.size
  go_wp2_with fail
  refine (c5 _).mono ?_
  rintro e w5 ⟨rfl, rfl⟩
  go_wp2_with fail
  refine (c6 _).mono ?_
  rintro e w6 ⟨rfl, rfl⟩
  go_wp2
  go_ret
  exact ⟨rfl, ((hb1.trans (hb2.mono (by omega))).trans (hb3.mono (by omega))).trans (hb4.mono (by omega))⟩

def sizesOk (n : Nat) (l : List ByteArray) : Bool := l.all fun s => decide (s.size ≤ n)
theorem sizesOk_take {l : List ByteArray} {k : Nat} (hk : k < l.length) (h : sizesOk 60 (l.take k) = true) (hs : l[k].size ≤ 60) : sizesOk 60 (l.take (k + 1)) = true := by
  unfold sizesOk at *
  rw [List.take_succ_eq_append_getElem hk, List.all_append, h]
  simpa using hs
theorem sizesOk_not {l : List ByteArray} {k : Nat} (hk : k < l.length) (hs : ¬ l[k].size ≤ 60) : sizesOk 60 l = false := by
  unfold sizesOk
  rw [List.all_eq_false]
  exact ⟨l[k], List.getElem_mem hk, by simpa using hs⟩

set_option maxHeartbeats 1000000 in
theorem short_any (l : List ByteArray) (g n c : Nat) (w : World) (hn : Hid (l.length = n)) (h9 : n ≤ 1000) (hc : ∀ j (hj : j < l.length), w.cell? ⟨g, j, none⟩ = some (.string l[j])) (hm : ∀ j (hj : j < l.length), l[j].size ≤ maxLen) :
    Calls Tryd.prog 14 #[.slice (some ⟨g, 0, none⟩) n c] w fun e w' => e = .returned (.bool (sizesOk 60 l)) ∧ w = w' := by
  unfold maxLen at hm
  go_enter Tryd.func14, Tryd.ntmps14
  go_wp2
  go_loop [3] (fun v => ∃ k : Nat, k ≤ n ∧ v = .int .i64 k ∧ Hid (sizesOk 60 (l.take k) = true)) (fun v => n - (intOf v).toNat)
  case atStart => exact ⟨0, Nat.zero_le _, rfl, rfl⟩
  case round =>
    obtain ⟨k, hk, rfl, hok⟩ := hrel
    by_cases hkn : k < n
    · have hkl : k < l.length := by have := hn.out; omega
      have hcell := hc k hkl
      have hmx := hm k hkl
      obtain ⟨x, hx⟩ : ∃ x, l[k] = x := ⟨_, rfl⟩
      rw [hx] at hcell hmx
      by_cases hs : x.size ≤ 60
      · have hok2 := Lib.hid (sizesOk_take hkl hok.out (by rw [hx]; exact hs))
        clear hc hm hx hok
        go_wp2
        go_round
        case rel => exact ⟨k + 1, by omega, by go_num, hok2⟩
        case measure => simp [intOf]; omega
      · have hno := Lib.hid (sizesOk_not hkl (by rw [hx]; exact hs))
        have hs2 : 60 < x.size := by omega
        clear hc hm hx hok
        go_wp2
        go_ret
        exact ⟨ret_bool hno.out.symm, rfl⟩
    · have hfin : Hid (sizesOk 60 l = true) := by
        have := hok.out
        rw [List.take_of_length_le (by have := hn.out; omega)] at this
        exact this
      clear hok
      go_wp2
      go_ret
      exact ⟨ret_bool hfin.out.symm, rfl⟩

end Go.Proofs.YtclniebhgfodfaaDoor
