/- The tokens of any text. -/
import Derived.Test.YtflnffgohbbhiaaGreatDoorG27
import Derived.Test.YtflnffgohbbhiaaGreatDoorG29
namespace Go.Proofs.YtflnffgohbbhiaaGreatDoor
open Go Go.RowKit
set_option linter.unusedVariables false
def tokR : Except (Int × Int) (List Tk) → List Tk
  | .ok ts => ts
  | .error _ => []
def errR {α : Type} : Except (Int × Int) α → Int × Int
  | .ok _ => (0, 0)
  | .error x => x
theorem OutV.get {w w' : World} {R : Except (Int × Int) (List Tk)} {e : Ending} (h : OutV w R e w') : ∃ v, e = .returned (.tuple #[v, .agg #[.int .i64 (errR R).1, .int .i64 (errR R).2]]) ∧ TkV w' w.heap.size (tokR R) v ∧ Below w.heap.size w w' := by
  obtain ⟨hb, h⟩ := h
  cases R with
  | ok ts =>
    obtain ⟨v, h1, h2⟩ := h
    exact ⟨v, h1, h2, hb⟩
  | error x => exact ⟨_, h, ⟨none, 0, rfl, Nat.le_refl _, by decide, fun h => absurd h (by simp [tokR])⟩, hb⟩
theorem tokR_len (s : ByteArray) : (tokR (scanS s)).length ≤ 100000 := by
  cases h : scanS s with
  | error x => exact Nat.zero_le _
  | ok ts =>
    have := (scanS_ok h).2.2.1
    show ts.length ≤ _
    omega
/-- What both packages make of a text. -/
theorem bothTok (s : ByteArray) (hs : s.size ≤ 1000000000) : ∃ x p ts, ts.length ≤ 100000 ∧ (∀ w, Calls Tryz.prog 11 #[.string s] w (fun e w' => ∃ v, e = .returned (.tuple #[v, .agg #[.int .i64 x, .int .i64 p]]) ∧ TkV w' w.heap.size ts v ∧ Below w.heap.size w w')) ∧
    (∀ w, Calls Tryz.prog 12 #[.string s] w (fun e w' => ∃ v, e = .returned (.tuple #[v, .agg #[.int .i64 x, .int .i64 p]]) ∧ TkV w' w.heap.size ts v ∧ Below w.heap.size w w')) :=
  ⟨(errR (scanS s)).1, (errR (scanS s)).2, tokR (scanS s), tokR_len s, fun w => (tokensP s w hs).mono fun _ _ h => h.get, fun w => (tokensR s w hs).mono fun _ _ h => h.get⟩
set_option maxHeartbeats 8000000 in
set_option maxRecDepth 100000 in
theorem lawTokens (s : ByteArray) (w : World) : Calls Tryz.prog 3 #[.string s] w (Sy.RetY w (.bool true)) := by
  by_cases hbig : 200 < s.size
  · have h1 : (200 : Int) < (s.size : Int) := by omega
    go_enter Tryz.func3, Tryz.ntmps3
    go_wp2_with fail
    refine (firstP5 _).mono ?_
    rintro e w1 ⟨rfl, hb⟩
    go_wp2
    go_ret
    exact ⟨rfl, hb⟩
  · have h1 : ¬ (200 : Int) < (s.size : Int) := by omega
    obtain ⟨x, p, ts, hl, hP, hR⟩ := bothTok s (by omega)
    have HL := Lib.hid hl
    have KP := Lib.hid hP
    have KR := Lib.hid hR
    clear hl hP hR hbig
    go_enter Tryz.func3, Tryz.ntmps3
    go_wp2_with fail
    refine (firstP5 _).mono ?_
    rintro e w1 ⟨rfl, hb1⟩
    have HB1 := Lib.hid hb1
    clear hb1
    go_wp2_with fail
    refine (KP.out _).mono ?_
    rintro e w2 ⟨v, rfl, hv, hb2⟩
    have HB2 := Lib.hid (chain5 (chain5 HB1.out hb2) (Below.alloc (Below.refl _ _) (Nat.le_refl _) (.cells #[.int .i64 x, .int .i64 p] 26)))
    have E2 : Hid (EB (w2.alloc (.cells #[.int .i64 x, .int .i64 p] 26)) w2.heap.size (.int .i64 x) (.int .i64 p)) := EB.new _ _ _
    have V2 := Lib.hid (hv.keep (Below.alloc (Below.refl _ _) (Nat.le_refl _) (.cells #[.int .i64 x, .int .i64 p] 26)))
    clear hb2 hv HB1
    go_upto_region 6 with fail
    generalize (w2.alloc (.cells #[.int .i64 x, .int .i64 p] 26)) = W3 at HB2 E2 V2 ⊢
    generalize w2.heap.size = g at E2 ⊢
    go_wp2_with fail
    refine (KR.out _).mono ?_
    rintro e w4 ⟨u, rfl, hu, hb4⟩
    have hal := Below.alloc (Below.refl w4.heap.size w4) (Nat.le_refl _) (.cells #[.int .i64 x, .int .i64 p] 26)
    have hbb := chain5 hb4 hal
    have HB5 := Lib.hid (chain5 HB2.out hbb)
    have E5 := Lib.hid (E2.out.keep hbb)
    have V5 := Lib.hid (V2.out.keep hbb)
    have F5 : Hid (EB (w4.alloc (.cells #[.int .i64 x, .int .i64 p] 26)) w4.heap.size (.int .i64 x) (.int .i64 p)) := EB.new _ _ _
    have U5 := Lib.hid (hu.keep hal)
    clear hal hbb hb4 hu HB2 E2 V2
    go_upto_region 7 with fail
    generalize (w4.alloc (.cells #[.int .i64 x, .int .i64 p] 26)) = W5 at HB5 E5 V5 F5 U5 ⊢
    generalize w4.heap.size = k at F5 ⊢
    have c0 := E5.out.c0
    have c1 := E5.out.c1
    have d0 := F5.out.c0
    have d1 := F5.out.c1
    go_wp2_with fail
    refine (sameTokensP ts v u _ _ _ V5.out U5.out HL.out).mono ?_
    rintro e w6 ⟨rfl, hb6⟩
    have HB6 := Lib.hid (chain5 HB5.out hb6)
    clear hb6 c0 c1 d0 d1
    go_wp2
    go_ret
    exact ⟨rfl, HB6.out⟩
end Go.Proofs.YtflnffgohbbhiaaGreatDoor
