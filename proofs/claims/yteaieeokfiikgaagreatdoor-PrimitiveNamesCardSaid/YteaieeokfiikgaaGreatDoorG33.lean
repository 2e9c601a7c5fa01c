import Derived.Test.YteaieeokfiikgaaGreatDoorAl
import Derived.Test.YteaieeokfiikgaaGreatDoorG32
namespace Go.Proofs.YteaieeokfiikgaaGreatDoor
open Go Go.RowKit
set_option linter.unusedVariables false
def aV : Option Nat → Int
 | some i => arI i
 | none => 0
set_option maxHeartbeats 16000000 in
set_option maxRecDepth 100000 in
theorem lawNames (fp fn : ByteArray) (n : Int) (w : World) (h64 : I64 n) (ht : Tab w) : Calls Tryz.prog 3 #[.agg #[.string fp, .string fn], .int .i64 n] w (RetB w true) := by
 obtain ⟨i, hi0⟩ : ∃ i, (n % 25).toNat = i := ⟨_, rfl⟩
 have hi : i < 25 := by omega
 have CN : Hid (∀ W, Calls Tryz.prog 17 #[.int .i64 n] W (RetY W (.agg #[.string (BA lispB), .string (nmS i)]))) := fun W => by have h := pickO n W h64; rw [hi0] at h; exact h
 have CP0 : Hid (∀ W, Calls Tryz.prog 15 #[.agg #[.string fp, .string fn]] W (RetIB W (aV (fndP fp fn)) (fndP fp fn).isSome)) := fun W => by have h := arityP fp fn W; revert h; generalize fndP fp fn = R; cases R <;> exact id
 have CR0 : Hid (∀ W, Calls Tryz.prog 16 #[.agg #[.string fp, .string fn]] W (RetIB W (aV (fndP fp fn)) (fndP fp fn).isSome)) := fun W => by have h := arityR fp fn W; revert h; generalize fndP fp fn = R; cases R <;> exact id
 have CP1 : Hid (∀ W, Calls Tryz.prog 15 #[.agg #[.string (BA lispB), .string (nmS i)]] W (RetIB W (arI i) true)) := fun W => by have h := arityP (BA lispB) (nmS i) W; rw [fnd_at i hi] at h; exact h
 have CR1 : Hid (∀ W, Calls Tryz.prog 16 #[.agg #[.string (BA lispB), .string (nmS i)]] W (RetIB W (arI i) true)) := fun W => by have h := arityR (BA lispB) (nmS i) W; rw [fnd_at i hi] at h; exact h
 have CC : Hid (∀ W g, NmAt W g → ∀ j, j < 25 → W.cell? ⟨g, j * 2, none⟩ = some (.string (BA lispB)) ∧ W.cell? ⟨g, j * 2 + 1, none⟩ = some (.string (nmS j))) := fun W g h => h.2
 generalize aV (fndP fp fn) = vn at CP0 CR0
 generalize (fndP fp fn).isSome = vb at CP0 CR0
 clear hi hi0 h64
 generalize arI i = an at *
 generalize nmS i = nm at *
 generalize BA lispB = LB at *
 have S0 := Sy.SB.new w (.string fp) (.string fn)
 have hb0 : Below w.heap.size w (w.alloc (.cells #[.string fp, .string fn] 23)) := Below.alloc (Below.refl _ _) (Nat.le_refl _) _
 have HT := qh9 ht
 clear ht
 go_enter Tryz.func3, Tryz.ntmps3
 go_upto_region 1 with fail
 generalize w.alloc (.cells #[.string fp, .string fn] 23) = W at S0 hb0 ⊢
 have HW := qh9 hb0
 replace HT := qh9 (HT.out.below hb0)
 have BS := qh9 S0
 clear S0 hb0
 go_wp2_with fail
 with_reducible refine (first7 _ HT.out).mono ?_
 rintro e w1 ⟨rfl, hb⟩
 replace HT := qh9 (HT.out.below hb)
 replace HW := qc9 HW hb
 replace BS := qh9 (BS.out.keep hb)
 clear hb
 go_wp2_with fail
 refine (namesP _).mono ?_
 rintro e w2 ⟨g1, c1, rfl, hc1, hn, hb⟩
 replace HT := qh9 (HT.out.below hb)
 replace HW := qc9 HW hb
 replace BS := qh9 (BS.out.keep hb)
 clear hb
 have N1 := qh9 hn
 clear hn
 go_wp2_with fail
 refine (namesR _).mono ?_
 rintro e w3 ⟨g2, c2, rfl, hc2, hn, hb⟩
 replace HT := qh9 (HT.out.below hb)
 replace HW := qc9 HW hb
 replace BS := qh9 (BS.out.keep hb)
 replace N1 := qh9 (N1.out.keep hb)
 clear hb
 have N2 := qh9 hn
 clear hn
 go_wp2_with fail
 go_loopw [7] (fun v wr => ∃ (j : Nat), j ≤ 25 ∧ v = .int .i64 (j : Int) ∧ Hid (Below w3.heap.size w3 wr)) (fun v _ => 25 - (intOf v).toNat)
 case atStart => exact ⟨0, by omega, rfl, qh9 (Below.refl _ _)⟩
 case round =>
  obtain ⟨j, hj, rfl, HB⟩ := hrel
  obtain ⟨wo, rfl⟩ : ∃ wo : World, wo = wr := ⟨_, rfl⟩
  have hb := HB.out
  replace HT := qh9 (HT.out.below hb)
  replace HW := qc9 HW hb
  replace BS := qh9 (BS.out.keep hb)
  replace N1 := qh9 (N1.out.keep hb)
  replace N2 := qh9 (N2.out.keep hb)
  clear hb
  by_cases hj25 : j < 25
  · have hj1 : (j : Int) < 25 := by omega
    have hj0 : (0 : Int) ≤ (j : Int) := by omega
    obtain ⟨x0, x1⟩ := CC.out _ _ N1.out j hj25
    obtain ⟨y0, y1⟩ := CC.out _ _ N2.out j hj25

    go_wp2_with fail
    apply mergeV
    case h =>
     intro hG
     go_region_with (fail)
     all_goals exact hG
    have HB2 := qh9 HB.out.drew
    go_wp2_with fail
    go_roundw
    case rel => exact ⟨j + 1, by omega, by go_num, HB2⟩
    case measure => simp [intOf]; omega
  · have hj1 : ¬ (j : Int) < 25 := by omega
    clear N1 N2 CC HB
    obtain ⟨s0, s1⟩ := And.intro BS.out.c0 BS.out.c1
    go_wp2_with fail
    clear s0 s1
    with_reducible refine (CP0.out _).mono ?_
    rintro e w5 ⟨rfl, hb⟩
    replace HT := qh9 (HT.out.below hb)
    replace HW := qc9 HW hb
    replace BS := qh9 (BS.out.keep hb)
    clear hb
    obtain ⟨s0, s1⟩ := And.intro BS.out.c0 BS.out.c1
    go_wp2_with fail
    clear s0 s1
    with_reducible refine (CR0.out _).mono ?_
    rintro e w6 ⟨rfl, hb⟩
    replace HT := qh9 (HT.out.below hb)
    replace HW := qc9 HW hb
    replace BS := qh9 (BS.out.keep hb)
    clear hb
    go_wp2_with fail
    with_reducible refine (CN.out _).mono ?_
    rintro e w7 ⟨rfl, hb⟩
    replace HT := qh9 (HT.out.below hb)
    replace HW := qc9 HW hb
    replace BS := qh9 (BS.out.keep hb)
    clear hb
    go_wp2_with fail
    with_reducible refine (CP1.out _).mono ?_
    rintro e w8 ⟨rfl, hb⟩
    replace HT := qh9 (HT.out.below hb)
    replace HW := qc9 HW hb
    replace BS := qh9 (BS.out.keep hb)
    clear hb
    go_wp2_with fail
    with_reducible refine (CN.out _).mono ?_
    rintro e w9 ⟨rfl, hb⟩
    replace HT := qh9 (HT.out.below hb)
    replace HW := qc9 HW hb
    replace BS := qh9 (BS.out.keep hb)
    clear hb
    go_wp2_with fail
    with_reducible refine (CR1.out _).mono ?_
    rintro e w10 ⟨rfl, hb⟩
    replace HT := qh9 (HT.out.below hb)
    replace HW := qc9 HW hb
    replace BS := qh9 (BS.out.keep hb)
    clear hb
    go_wp2
    go_ret
    exact ⟨rfl, HW.out⟩
end Go.Proofs.YteaieeokfiikgaaGreatDoor
