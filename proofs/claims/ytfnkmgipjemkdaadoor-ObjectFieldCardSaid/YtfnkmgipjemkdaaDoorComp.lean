/- number.Compare, Digits, FromInt of a small number. -/
import Derived.Test.YtfnkmgipjemkdaaDoorCompMath
import Derived.Test.YtfnkmgipjemkdaaDoorShelf
namespace Go.Proofs.YtfnkmgipjemkdaaDoor
open Go Go.RowKit
set_option linter.unusedVariables false

set_option maxHeartbeats 400000 in
set_option maxRecDepth 100000 in
theorem cmpInt (x y : Int) (w : World) (h : x ≠ y) :
    Calls Tryd.prog 42 #[.int .i64 x, .int .i64 y] w fun e w' => e = .returned (.int .i64 (ordI x y)) ∧ w = w' := by
  rcases Int.lt_trichotomy x y with g | g | g
  · have ho := Lib.hid (ordI_lt g)
    go_enter Tryd.func42, Tryd.ntmps42
    go_wp2
    go_ret
    exact ⟨ret_int ho.out.symm, rfl⟩
  · exact absurd g h
  · have ho := Lib.hid (ordI_gt g)
    have g2 : ¬ x < y := by omega
    have e1 : (x == x) = true := by simp
    go_enter Tryd.func42, Tryd.ntmps42
    go_wp2
    go_ret
    exact ⟨ret_int ho.out.symm, rfl⟩

set_option maxHeartbeats 400000 in
set_option maxRecDepth 100000 in
theorem cmpTexts (l l' : List UInt8) (s t : ByteArray) (w : World) (hs : Hid (LA s = body l)) (ht : Hid (LA t = body l')) (h1 : s.size ≤ 1000000000) (h2 : t.size ≤ 1000000000) :
    Calls Tryd.prog 64 #[.string s, .string t] w fun e w' => e = .returned (.int .i64 (ordN (mag l) (mag l'))) ∧ w = w' := by
  by_cases hl : s.size = t.size
  · have hl2 : (((s.size : Int)) == (t.size : Int)) = true := by rw [hl]; simp
    have hl3 : (((s.size : Int)) != (t.size : Int)) = false := by rw [hl]; simp
    have ho : Hid (Lib.compareBytes s.data.toList t.data.toList = ordN (mag l) (mag l')) := by
      show Lib.compareBytes (LA s) (LA t) = _
      rw [hs.out, ht.out]
      exact compare_bodies (by rw [← hs.out, ← ht.out, LA_length, LA_length, hl])
    clear hl
    go_enter Tryd.func64, Tryd.ntmps64
    go_wp2_with fail
    refine (Tryd.strings_Compare s t _).mono ?_
    rintro e w' ⟨rfl, rfl⟩
    rw [ho.out]
    go_wp2
    go_ret
    exact ⟨rfl, rfl⟩
  · have hl2 : (((s.size : Int)) == (t.size : Int)) = false := by rw [beq_eq_false_iff_ne]; omega
    have hl3 : (((s.size : Int)) != (t.size : Int)) = true := by rw [bne_iff_ne]; omega
    have ho : Hid (ordI s.size t.size = ordN (mag l) (mag l')) := by
      show _ = _
      rcases Nat.lt_or_ge s.size t.size with g | g
      · rw [ordI_lt (by omega), ordN_lt (mag_lt_of_len (by rw [← hs.out, ← ht.out, LA_length, LA_length]; exact g))]
      · rw [ordI_gt (by omega), ordN_gt (mag_lt_of_len (by rw [← hs.out, ← ht.out, LA_length, LA_length]; omega))]
    have hne : (s.size : Int) ≠ (t.size : Int) := by omega
    replace hne := Lib.hid hne
    clear hl
    go_enter Tryd.func64, Tryd.ntmps64
    go_wp2_with fail
    refine (cmpInt _ _ _ hne.out).mono ?_
    rintro e w' ⟨rfl, rfl⟩
    rw [ho.out]
    go_wp2
    go_ret
    exact ⟨rfl, rfl⟩

set_option maxHeartbeats 1000000 in
set_option maxRecDepth 100000 in
theorem compare_any (s t : ByteArray) (w : World) (hs : s.size ≤ 400000000) (ht : t.size ≤ 400000000) :
    Calls Tryd.prog 47 #[.string s, .string t] w fun e w' => e = .returned (.int .i64 (ordI (val (LA s)) (val (LA t)))) ∧ w = w' := by
  obtain ⟨x, hx⟩ : ∃ x, BA (body (LA s)) = x := ⟨_, rfl⟩
  obtain ⟨y, hy⟩ : ∃ y, BA (body (LA t)) = y := ⟨_, rfl⟩
  have bx : Hid (LA x = body (LA s)) := by show _ = _; rw [← hx]; rfl
  have bY : Hid (LA y = body (LA t)) := by show _ = _; rw [← hy]; rfl
  have sx : x.size ≤ 1000000000 := by have := body_length (LA s); rw [← LA_length, bx.out]; rw [LA_length] at this; omega
  have sy : y.size ≤ 1000000000 := by have := body_length (LA t); rw [← LA_length, bY.out]; rw [LA_length] at this; omega
  rw [val_eq, val_eq]
  have nx := @neg_mag (LA s)
  have ny := @neg_mag (LA t)
  have Hx := Lib.hid hx
  have Hy := Lib.hid hy
  clear hx hy
  cases hb : neg (LA s) <;> cases hb' : neg (LA t) <;> rw [hb] at nx <;> rw [hb'] at ny <;> have Hb := Lib.hid hb <;> have Hb' := Lib.hid hb' <;> clear hb hb' <;> (go_enter Tryd.func47, Tryd.ntmps47)
  · rw [ord_ff]
    clear nx ny
    go_wp2_with fail
    refine (split_any s _ (by unfold maxLen; omega)).mono ?_
    rintro e w' ⟨rfl, rfl⟩
    rw [Hx.out, Hb.out]
    go_wp2_with fail
    refine (split_any t _ (by unfold maxLen; omega)).mono ?_
    rintro e w' ⟨rfl, rfl⟩
    rw [Hy.out, Hb'.out]
    go_wp2_with fail
    refine (cmpTexts (LA s) (LA t) x y _ bx bY sx sy).mono ?_
    rintro e w' ⟨rfl, rfl⟩
    go_wp2
    go_ret
    exact ⟨rfl, rfl⟩
  · rw [ord_ft (ny rfl)]
    clear nx ny
    go_wp2_with fail
    refine (split_any s _ (by unfold maxLen; omega)).mono ?_
    rintro e w' ⟨rfl, rfl⟩
    rw [Hx.out, Hb.out]
    go_wp2_with fail
    refine (split_any t _ (by unfold maxLen; omega)).mono ?_
    rintro e w' ⟨rfl, rfl⟩
    rw [Hy.out, Hb'.out]
    go_wp2
    go_ret
    exact ⟨rfl, rfl⟩
  · rw [ord_tf (nx rfl)]
    clear nx ny
    go_wp2_with fail
    refine (split_any s _ (by unfold maxLen; omega)).mono ?_
    rintro e w' ⟨rfl, rfl⟩
    rw [Hx.out, Hb.out]
    go_wp2_with fail
    refine (split_any t _ (by unfold maxLen; omega)).mono ?_
    rintro e w' ⟨rfl, rfl⟩
    rw [Hy.out, Hb'.out]
    go_wp2
    go_ret
    exact ⟨rfl, rfl⟩
  · rw [ord_tt]
    clear nx ny
    go_wp2_with fail
    refine (split_any s _ (by unfold maxLen; omega)).mono ?_
    rintro e w' ⟨rfl, rfl⟩
    rw [Hx.out, Hb.out]
    go_wp2_with fail
    refine (split_any t _ (by unfold maxLen; omega)).mono ?_
    rintro e w' ⟨rfl, rfl⟩
    rw [Hy.out, Hb'.out]
    go_wp2_with fail
    refine (cmpTexts (LA t) (LA s) y x _ bY bx sy sx).mono ?_
    rintro e w' ⟨rfl, rfl⟩
    go_wp2
    go_ret
    exact ⟨rfl, rfl⟩

set_option maxHeartbeats 400000 in
set_option maxRecDepth 100000 in
theorem digits_any (s : ByteArray) (w : World) (hs : s.size ≤ 400000000) :
    Calls Tryd.prog 75 #[.string s] w fun e w' => e = .returned (.int .i64 ((body (LA s)).length : Nat)) ∧ w = w' := by
  obtain ⟨x, hx⟩ : ∃ x, BA (body (LA s)) = x := ⟨_, rfl⟩
  have hl : Hid ((body (LA s)).length = x.size) := by show _ = _; rw [← hx]; rfl
  rw [hl.out]
  have Hx := Lib.hid hx
  clear hx
  go_enter Tryd.func75, Tryd.ntmps75
  go_wp2_with fail
  refine (split_any s _ (by unfold maxLen; omega)).mono ?_
  rintro e w' ⟨rfl, rfl⟩
  rw [Hx.out]
  go_wp2
  go_ret
  exact ⟨rfl, rfl⟩

set_option maxHeartbeats 400000 in
set_option maxRecDepth 100000 in
theorem fromInt5 (w : World) :
    Calls Tryd.prog 23 #[.int .i64 5] w fun e w' => e = .returned (.string (BA (text 5))) ∧ w = w' := by
  have he : Hid ((⟨(Lib.decDigits 5).toArray⟩ : ByteArray) = BA (text 5)) := by show BA (Lib.decDigits 5) = _; rw [decDigits_eq]; rfl
  go_enter Tryd.func23, Tryd.ntmps23
  go_wp2_with fail
  refine (Tryd.strconv_Itoa_small 5 (by omega) _).mono ?_
  rintro e w' ⟨rfl, rfl⟩
  rw [he.out]
  go_wp2
  go_ret
  exact ⟨rfl, rfl⟩

end Go.Proofs.YtfnkmgipjemkdaaDoor
