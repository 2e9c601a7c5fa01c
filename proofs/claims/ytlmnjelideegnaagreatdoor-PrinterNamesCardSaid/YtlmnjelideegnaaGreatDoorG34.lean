import Derived.Test.YtlmnjelideegnaaGreatDoorAl
import Derived.Test.YtlmnjelideegnaaGreatDoorG29
import Derived.Test.YtlmnjelideegnaaGreatDoorG33
import Derived.Test.YtlmnjelideegnaaGreatDoorG17
import Derived.Deep.RegionHeld3
namespace Go.Proofs.YtlmnjelideegnaaGreatDoor
open Go Go.RowKit
set_option linter.unusedVariables false
set_option maxHeartbeats 32000000
set_option maxRecDepth 100000
theorem namesW (p m : ByteArray) (n k : Int) (w : World) (hT : EscT w) (hn : -9223372036854775808 ≤ n) (hn' : n ≤ 9223372036854775807) (hk : -9223372036854775808 ≤ k) (hk' : k ≤ 9223372036854775807)
 (hz1 : ¬ (m.size : Int) > 60) (hz2 : ¬ (p.size : Int) > 60)
 (hF : ∀ X, Below w.heap.size w X → Calls Tryz.prog 10 #[] X (RetB X true)) :
 Calls Tryz.prog 3 #[.agg #[.string p, .string m], .int .i64 n, .int .i64 k] w (RetB w true) := by
 have HT := qh9 hT
 have HF := qh9 hF
 have CK := qh9 (fun X => symMake k X hk hk')
 have S0 := Sy.SB.new w (.string p) (.string m)
 have hb0 := below_al w (.cells #[.string p, .string m] 23)
 clear hT hF hk hk'
 go_enter Tryz.func3, Tryz.ntmps3
 go_upto_region 1 with fail
 generalize w.alloc (.cells #[.string p, .string m] 23) = W at S0 hb0 ⊢
 have HB := qh9 hb0
 have BS := qh9 S0
 generalize hgs : w.heap.size = gs at BS
 clear S0 hb0
 go_wp2_with fail
 with_reducible refine (HF.out _ HB.out).mono ?_
 rintro e w1 ⟨rfl, hb⟩
 replace BS := qh9 (BS.out.keep hb)
 replace HB := qc9 HB hb
 clear hb HF
 have s0 := BS.out.c0
 have s1 := Sy.SB.c1 BS.out
 go_wp2_with fail
 with_reducible refine (CK.out _).mono ?_
 rintro e w2 ⟨sa, sb, rfl, hb, hok⟩
 replace BS := qh9 (BS.out.keep hb)
 replace HB := qc9 HB hb
 clear hb s0 s1 CK hok
 go_upto_region 6 with fail
 generalize BA sa = ta at *
 generalize BA sb = tb at *
 have BT0 := Sy.SB.new w2 (.string ta) (.string tb)
 have hal := below_al w2 (.cells #[.string ta, .string tb] 23)
 generalize w2.alloc (.cells #[.string ta, .string tb] 23) = W0 at BT0 hal ⊢
 have BT := qh9 BT0
 replace BS := qh9 (BS.out.keep hal)
 replace HB := qc9 HB hal
 generalize hgt : w2.heap.size = gt at BT ⊢
 clear BT0 hal
 have HD0 := qh9 (BS.out.keep ((Below.refl W0.heap.size W0).drew))
 have p00 := BS.out.c0
 have p01 := Sy.SB.c1 BS.out
 have p02 := HD0.out.c0
 have p03 := Sy.SB.c1 HD0.out
 go_region_held3 (fun W' => W'.cell? ⟨gs, 0, none⟩ = some (.string p) ∧ W'.cell? ⟨gs, 1, none⟩ = some (.string m)) (go_keep) ((first | (go_at_call 13; refine (packages6 _).mono ?_; rintro e x0a ⟨y0, rfl, hy, hb⟩; have HY0a := qh9 hy; have HR0a := qh9 ((Below.drew (Below.refl W0.heap.size W0)).trans hb); have BX0a := qh9 (HD0.out.keep hb); have q00 := BX0a.out.c0; have q01 := Sy.SB.c1 BX0a.out; clear hy hb) | (go_at_call 14; refine (where6 n _ hn hn').mono ?_; rintro e x0c ⟨rfl, hb⟩; have HY0b := qh9 (HY0a.out.keep hb); have HR0b := qc9 HR0a hb; have BX0b := qh9 (BX0a.out.keep hb); have r00 := BX0b.out.c0; have r01 := Sy.SB.c1 BX0b.out; clear hb) | (go_at_call 12; refine (nameUP userM y0 (whereB (n % 3).toNat) p m x0c HY0b.out (by decide) (by decide) (HT.out.keep (chain2 HB.out HR0b.out (Nat.le_refl _)))).mono ?_; rintro e W1 ⟨rfl, hb⟩; have HR0c := qc9 HR0b hb; have BX0c := qh9 (BX0b.out.keep hb); have t00 := BX0c.out.c0; have t01 := Sy.SB.c1 BX0c.out; clear hb)))
 have hb0 := HR0c.out
 replace BS := qh9 (BS.out.keep hb0)
 replace BT := qh9 (BT.out.keep hb0)
 replace HB := qc9 HB hb0
 go_wp2_with fail
 have HD1 := qh9 (BS.out.keep ((Below.refl W1.heap.size W1).drew))
 have p10 := BS.out.c0
 have p11 := Sy.SB.c1 BS.out
 have p12 := HD1.out.c0
 have p13 := Sy.SB.c1 HD1.out
 go_region_held3 (fun W' => W'.cell? ⟨gs, 0, none⟩ = some (.string p) ∧ W'.cell? ⟨gs, 1, none⟩ = some (.string m)) (go_keep) ((first | (go_at_call 13; refine (packages6 _).mono ?_; rintro e x1a ⟨y1, rfl, hy, hb⟩; have HY1a := qh9 hy; have HR1a := qh9 ((Below.drew (Below.refl W1.heap.size W1)).trans hb); have BX1a := qh9 (HD1.out.keep hb); have q10 := BX1a.out.c0; have q11 := Sy.SB.c1 BX1a.out; clear hy hb) | (go_at_call 14; refine (where6 n _ hn hn').mono ?_; rintro e x1c ⟨rfl, hb⟩; have HY1b := qh9 (HY1a.out.keep hb); have HR1b := qc9 HR1a hb; have BX1b := qh9 (BX1a.out.keep hb); have r10 := BX1b.out.c0; have r11 := Sy.SB.c1 BX1b.out; clear hb) | (go_at_call 15; refine (nameR6 userM y1 (whereB (n % 3).toNat) p m x1c HY1b.out (by decide) (by decide)).mono ?_; rintro e W2 ⟨rfl, hb⟩; have HR1c := qc9 HR1b hb; have BX1c := qh9 (BX1b.out.keep hb); have t10 := BX1c.out.c0; have t11 := Sy.SB.c1 BX1c.out; clear hb)))
 have hb1 := HR1c.out
 replace BS := qh9 (BS.out.keep hb1)
 replace BT := qh9 (BT.out.keep hb1)
 replace HB := qc9 HB hb1
 go_wp2_with fail
 have HD2 := qh9 (BT.out.keep ((Below.refl W2.heap.size W2).drew))
 have p20 := BT.out.c0
 have p21 := Sy.SB.c1 BT.out
 have p22 := HD2.out.c0
 have p23 := Sy.SB.c1 HD2.out
 go_region_held3 (fun W' => W'.cell? ⟨gt, 0, none⟩ = some (.string ta) ∧ W'.cell? ⟨gt, 1, none⟩ = some (.string tb)) (go_keep) ((first | (go_at_call 13; refine (packages6 _).mono ?_; rintro e x2a ⟨y2, rfl, hy, hb⟩; have HY2a := qh9 hy; have HR2a := qh9 ((Below.drew (Below.refl W2.heap.size W2)).trans hb); have BX2a := qh9 (HD2.out.keep hb); have q20 := BX2a.out.c0; have q21 := Sy.SB.c1 BX2a.out; clear hy hb) | (go_at_call 14; refine (where6 n _ hn hn').mono ?_; rintro e x2c ⟨rfl, hb⟩; have HY2b := qh9 (HY2a.out.keep hb); have HR2b := qc9 HR2a hb; have BX2b := qh9 (BX2a.out.keep hb); have r20 := BX2b.out.c0; have r21 := Sy.SB.c1 BX2b.out; clear hb) | (go_at_call 12; refine (nameUP userM y2 (whereB (n % 3).toNat) ta tb x2c HY2b.out (by decide) (by decide) (HT.out.keep (chain2 HB.out HR2b.out (Nat.le_refl _)))).mono ?_; rintro e W3 ⟨rfl, hb⟩; have HR2c := qc9 HR2b hb; have BX2c := qh9 (BX2b.out.keep hb); have t20 := BX2c.out.c0; have t21 := Sy.SB.c1 BX2c.out; clear hb)))
 have hb2 := HR2c.out
 replace BS := qh9 (BS.out.keep hb2)
 replace BT := qh9 (BT.out.keep hb2)
 replace HB := qc9 HB hb2
 go_wp2_with fail
 have HD3 := qh9 (BT.out.keep ((Below.refl W3.heap.size W3).drew))
 have p30 := BT.out.c0
 have p31 := Sy.SB.c1 BT.out
 have p32 := HD3.out.c0
 have p33 := Sy.SB.c1 HD3.out
 go_region_held3 (fun W' => W'.cell? ⟨gt, 0, none⟩ = some (.string ta) ∧ W'.cell? ⟨gt, 1, none⟩ = some (.string tb)) (go_keep) ((first | (go_at_call 13; refine (packages6 _).mono ?_; rintro e x3a ⟨y3, rfl, hy, hb⟩; have HY3a := qh9 hy; have HR3a := qh9 ((Below.drew (Below.refl W3.heap.size W3)).trans hb); have BX3a := qh9 (HD3.out.keep hb); have q30 := BX3a.out.c0; have q31 := Sy.SB.c1 BX3a.out; clear hy hb) | (go_at_call 14; refine (where6 n _ hn hn').mono ?_; rintro e x3c ⟨rfl, hb⟩; have HY3b := qh9 (HY3a.out.keep hb); have HR3b := qc9 HR3a hb; have BX3b := qh9 (BX3a.out.keep hb); have r30 := BX3b.out.c0; have r31 := Sy.SB.c1 BX3b.out; clear hb) | (go_at_call 15; refine (nameR6 userM y3 (whereB (n % 3).toNat) ta tb x3c HY3b.out (by decide) (by decide)).mono ?_; rintro e W4 ⟨rfl, hb⟩; have HR3c := qc9 HR3b hb; have BX3c := qh9 (BX3b.out.keep hb); have t30 := BX3c.out.c0; have t31 := Sy.SB.c1 BX3c.out; clear hb)))
 have hb3 := HR3c.out
 replace BS := qh9 (BS.out.keep hb3)
 replace BT := qh9 (BT.out.keep hb3)
 replace HB := qc9 HB hb3
 go_wp2_with fail
 go_ret
 exact ⟨rfl, HB.out⟩
theorem namesLong (p m : ByteArray) (n k : Int) (w : World) (hz : (m.size : Int) > 60 ∨ (p.size : Int) > 60)
 (hF : ∀ X, Below w.heap.size w X → Calls Tryz.prog 10 #[] X (RetB X true)) :
 Calls Tryz.prog 3 #[.agg #[.string p, .string m], .int .i64 n, .int .i64 k] w (RetB w true) := by
 have HF := qh9 hF
 clear hF
 by_cases hz1 : (m.size : Int) > 60
 all_goals
  first | (have hz2 : (p.size : Int) > 60 := by omega) | skip
  have S0 := Sy.SB.new w (.string p) (.string m)
  have hb0 := below_al w (.cells #[.string p, .string m] 23)
  go_enter Tryz.func3, Tryz.ntmps3
  go_upto_region 1 with fail
  generalize w.alloc (.cells #[.string p, .string m] 23) = W at S0 hb0 ⊢
  have HB := qh9 hb0
  have BS := qh9 S0
  clear S0 hb0
  go_wp2_with fail
  with_reducible refine (HF.out _ HB.out).mono ?_
  rintro e w1 ⟨rfl, hb⟩
  replace BS := qh9 (BS.out.keep hb)
  replace HB := qc9 HB hb
  clear hb
  have s0 := BS.out.c0
  have s1 := Sy.SB.c1 BS.out
  go_wp2
  go_ret
  exact ⟨rfl, HB.out⟩
/-- PrinterNames, whatever the input. -/
theorem names_walk (p m : ByteArray) (n k : Int) (w : World) (hn : I64 n) (hk : I64 k) (hT : EscT w) :
 Calls Tryz.prog 3 #[.agg #[.string p, .string m], .int .i64 n, .int .i64 k] w (RetB w true) := by
 by_cases hz : (m.size : Int) > 60 ∨ (p.size : Int) > 60
 · exact namesLong p m n k w hz (fun X hX => first6 X (hT.keep hX))
 · rw [not_or] at hz
   exact namesW p m n k w hT hn.1 hn.2 hk.1 hk.2 hz.1 hz.2 (fun X hX => first6 X (hT.keep hX))
end Go.Proofs.YtlmnjelideegnaaGreatDoor
