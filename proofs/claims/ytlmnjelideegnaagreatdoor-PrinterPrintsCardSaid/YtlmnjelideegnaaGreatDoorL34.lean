import Derived.Test.YtlmnjelideegnaaGreatDoorCl
import Derived.Test.YtlmnjelideegnaaGreatDoorL33
import Derived.Test.YtlmnjelideegnaaGreatDoorL28
namespace Go.Proofs.YtlmnjelideegnaaGreatDoor
open Go Go.RowKit
set_option linter.unusedVariables false
set_option maxHeartbeats 32000000
set_option maxRecDepth 100000
theorem printsW (r : Rw) (r0 r1 r2 r3 : Value) (n : Int) (w : World) (hr : RawAt w (Has w) r [r0, r1, r2, r3]) (hT : EscT w) (ht : Tab w) (hn : -9223372036854775808 ≤ n) (hn' : n ≤ 9223372036854775807) :
 Calls Tryz.prog 4 #[.agg #[r0, r1, r2, r3], .int .i64 n] w (RetB w true) := by
 have HT := qh9 hT
 have RR := qh9 hr
 have HTB := qh9 ht
 have CF : Hid (∀ X, Below w.heap.size w X → Calls Tryz.prog 16 #[.agg #[r0, r1, r2, r3], .int .i64 40] X (fun e w' => e = .returned (.bool (few r 40)) ∧ Below X.heap.size X w')) := fun X h => fewO r [r0, r1, r2, r3] 40 X (Has w) (In.has w |>.later h.size) (RR.out.below (In.has w) h) (by decide) (by decide)
 have KO : Hid (few r 40 = true → ∀ X, Below w.heap.size w X → Calls Tryz.prog 17 #[.agg #[r0, r1, r2, r3]] X (RetX X 159)) := fun hf X h => by
  obtain ⟨hok, hcn⟩ := few_ok hf
  exact (objectO r [r0, r1, r2, r3] X (Has w) (In.has w |>.later h.size) (RR.out.below (In.has w) h) hok (HTB.out.below h)).mono fun _ _ hr => hr.le (by omega)
 generalize few r 40 = ff at CF KO
 clear hT hr ht
 go_enter Tryz.func4, Tryz.ntmps4
 go_upto_region 1 with fail
 have hr0 := qh9 (heap_alloc_new w (.cells #[r0, r1, r2, r3] 35))
 have HB := qh9 (below_al w (.cells #[r0, r1, r2, r3] 35))
 generalize w.alloc (.cells #[r0, r1, r2, r3] 35) = W at hr0 HB ⊢
 have BR : Hid (RwB W w.heap.size r0 r1 r2 r3) := hr0.out
 clear hr0
 go_wp2_with fail
 with_reducible refine (first6 W (HT.out.keep HB.out)).mono ?_
 rintro e w1 ⟨rfl, hb⟩
 replace BR := qh9 (BR.out.keep hb)
 replace HB := qc9 HB hb
 clear hb
 obtain ⟨c0, c1, c2, c3⟩ := BR.out.c
 go_wp2_with fail
 with_reducible refine (CF.out _ HB.out).mono ?_
 rintro e w2 ⟨rfl, hb⟩
 replace BR := qh9 (BR.out.keep hb)
 replace HB := qc9 HB hb
 clear hb c0 c1 c2 c3 CF
 cases ff with
 | false =>
  go_wp2
  go_ret
  exact ⟨rfl, HB.out⟩
 | true =>
  obtain ⟨c0, c1, c2, c3⟩ := BR.out.c
  go_wp2_with fail
  with_reducible refine (KO.out (by simp) _ HB.out).mono ?_
  intro e w3 hx
  obtain ⟨o, p, rfl, hp, hb, ok⟩ := RetX.hU hx
  replace HB := qc9 HB hb
  have HP := qh9 hp
  have OK := qh9 ok
  have T1 := qh9 (aO_new w3 #[.int .i64 0, .string ⟨#[]⟩, .string ⟨#[]⟩, .string ⟨#[]⟩, .string ⟨#[]⟩, .string ⟨#[]⟩, .slice none 0 0])
  unfold aO at T1
  clear hp ok hb c0 c1 c2 c3 BR KO RR HTB
  go_upto_region 6 with ((with_reducible refine storeB (w1 := w3) (g := w3.heap.size) (b := o) (p := p) (.tmp 5) (.tmp 16) ?_ ?_ ?_ ?_ HP.out T1.out ?_); rfl; rfl; rfl; rfl; have P := Pt1U.new (w := w3) (o := o) (p := p) (z := #[.int .i64 0, .string ⟨#[]⟩, .string ⟨#[]⟩, .string ⟨#[]⟩, .string ⟨#[]⟩, .string ⟨#[]⟩, .slice none 0 0]); generalize World.setRow (w3.alloc (.cells #[.int .i64 0, .string ⟨#[]⟩, .string ⟨#[]⟩, .string ⟨#[]⟩, .string ⟨#[]⟩, .string ⟨#[]⟩, .slice none 0 0] 39)) w3.heap.size (cellsO o p).toArray = X at P ⊢; replace HB := qh9 (chain2 HB.out P.bel (Nat.le_refl _)); replace HP := qh9 (HP.out.below P.bel); have D0 := qh9 P.b0; clear P T1)
  generalize w3.heap.size = gb at D0 ⊢
  obtain ⟨x0, x1, x2, x3, x4, x5, eo⟩ := cells7 o p
  have BO : Hid (Bx X gb #[x0, x1, x2, x3, x4, x5, p]) := by
   have := D0.out
   rwa [eo] at this
  have EV := qh9 (vO_cells eo)
  have BC : Hid (Bx X gb (cellsO o p).toArray) := D0.out
  clear D0 eo
  have CP : Hid (∀ X' y, Below X.heap.size X X' → Sy.PgV X' userM y → Calls Tryz.prog 18 #[y, .string (whereB (n % 3).toNat), .agg #[x0, x1, x2, x3, x4, x5, p]] X' (RetTE X' (prV userM (whereB (n % 3).toNat) o true).1 (prV userM (whereB (n % 3).toNat) o true).2)) := fun X' y hX hy => by
   have bd := Ob.bd_more (show 10 ≤ 90 by decide) OK.out.bd
   have := printP userM y (whereB (n % 3).toNat) o p true X' hy (by decide) (by decide) (HT.out.keep (HB.out.trans (hX.mono HB.out.size))) (HP.out.below hX) 90 (by decide) bd (by have := OK.out.nodes; omega) (fun Y hY => validP o p Y (Has Y) bd (by have := OK.out.nodes; omega) (In.has Y) ((HP.out.below hX).below hY))
   rwa [EV.out] at this
  have CR : Hid (∀ X' y, Below X.heap.size X X' → Sy.PgV X' userM y → Calls Tryz.prog 19 #[y, .string (whereB (n % 3).toNat), .agg #[x0, x1, x2, x3, x4, x5, p]] X' (RetTE X' (prV userM (whereB (n % 3).toNat) o true).1 (prV userM (whereB (n % 3).toNat) o true).2)) := fun X' y hX hy => by
   have bd := Ob.bd_more (show 10 ≤ 90 by decide) OK.out.bd
   have := printR6 userM y (whereB (n % 3).toNat) o p true X' hy (by decide) (by decide) (HP.out.below hX) 90 (by decide) bd (by have := OK.out.nodes; omega) (fun Y hY => valid2R o p Y bd (by have := OK.out.nodes; omega) ((HP.out.below hX).below hY))
   rwa [EV.out] at this
  obtain ⟨V, hV⟩ : ∃ V, prV userM (whereB (n % 3).toNat) o true = V := ⟨_, rfl⟩
  rw [hV] at CP CR
  obtain ⟨Vs, Vn⟩ := V
  clear hV OK
  have D0 := qh9 (BO.out.keep ((Below.refl X.heap.size X).drew))
  obtain ⟨m0, m1, m2, m3, m4, m5, m6⟩ := Bx.c BO.out
  obtain ⟨n0, n1, n2, n3, n4, n5, n6⟩ := Bx.c D0.out
  go_wp2_with fail
  go_region_held3 (fun W' => W'.cell? ⟨gb, 0, none⟩ = some x0 ∧ W'.cell? ⟨gb, 1, none⟩ = some x1 ∧ W'.cell? ⟨gb, 2, none⟩ = some x2 ∧ W'.cell? ⟨gb, 3, none⟩ = some x3 ∧ W'.cell? ⟨gb, 4, none⟩ = some x4 ∧ W'.cell? ⟨gb, 5, none⟩ = some x5 ∧ W'.cell? ⟨gb, 6, none⟩ = some p) (go_keep) ((first | (go_at_call 13; refine (packages6 _).mono ?_; rintro e x0a ⟨y0, rfl, hy, hb⟩; have HY0 := qh9 hy; have HR0 := qh9 ((Below.drew (Below.refl X.heap.size X)).trans hb); obtain ⟨q0, q1, q2, q3, q4, q5, q6⟩ := Bx.c (BO.out.keep HR0.out); clear hy hb) | (go_at_call 14; refine (where6 n _ hn hn').mono ?_; rintro e x0c ⟨rfl, hb⟩; have HZ0 := qh9 (HY0.out.keep hb); have HQ0 := qc9 HR0 hb; obtain ⟨r0, r1, r2, r3, r4, r5, r6⟩ := Bx.c (BO.out.keep HQ0.out); clear hb) | (go_at_call 18; refine (CP.out x0c y0 HQ0.out HZ0.out).mono ?_; rintro e W0 ⟨rfl, hb⟩; have HG0 := qc9 HQ0 hb; obtain ⟨t0, t1, t2, t3, t4, t5, t6⟩ := Bx.c (BO.out.keep HG0.out); clear hb)))
  replace BO := qh9 (BO.out.keep HG0.out)
  replace BC := qh9 (BC.out.keep HG0.out)
  replace HP := qh9 (HP.out.below HG0.out)
  replace HB := qh9 (chain2 HB.out HG0.out (Nat.le_refl _))
  try clear m0 m1 m2 m3 m4 m5 m6 n0 n1 n2 n3 n4 n5 n6
  have HC0 := qh9 HG0.out
  have D1 := qh9 (BO.out.keep ((Below.refl W0.heap.size W0).drew))
  obtain ⟨m0, m1, m2, m3, m4, m5, m6⟩ := Bx.c BO.out
  obtain ⟨n0, n1, n2, n3, n4, n5, n6⟩ := Bx.c D1.out
  go_wp2_with fail
  go_region_held3 (fun W' => W'.cell? ⟨gb, 0, none⟩ = some x0 ∧ W'.cell? ⟨gb, 1, none⟩ = some x1 ∧ W'.cell? ⟨gb, 2, none⟩ = some x2 ∧ W'.cell? ⟨gb, 3, none⟩ = some x3 ∧ W'.cell? ⟨gb, 4, none⟩ = some x4 ∧ W'.cell? ⟨gb, 5, none⟩ = some x5 ∧ W'.cell? ⟨gb, 6, none⟩ = some p) (go_keep) ((first | (go_at_call 13; refine (packages6 _).mono ?_; rintro e x1a ⟨y1, rfl, hy, hb⟩; have HY1 := qh9 hy; have HR1 := qh9 ((Below.drew (Below.refl W0.heap.size W0)).trans hb); obtain ⟨q0, q1, q2, q3, q4, q5, q6⟩ := Bx.c (BO.out.keep HR1.out); clear hy hb) | (go_at_call 14; refine (where6 n _ hn hn').mono ?_; rintro e x1c ⟨rfl, hb⟩; have HZ1 := qh9 (HY1.out.keep hb); have HQ1 := qc9 HR1 hb; obtain ⟨r0, r1, r2, r3, r4, r5, r6⟩ := Bx.c (BO.out.keep HQ1.out); clear hb) | (go_at_call 19; refine (CR.out x1c y1 (chain2 HC0.out HQ1.out (Nat.le_refl _)) HZ1.out).mono ?_; rintro e W1 ⟨rfl, hb⟩; have HG1 := qc9 HQ1 hb; obtain ⟨t0, t1, t2, t3, t4, t5, t6⟩ := Bx.c (BO.out.keep HG1.out); clear hb)))
  replace BO := qh9 (BO.out.keep HG1.out)
  replace BC := qh9 (BC.out.keep HG1.out)
  replace HP := qh9 (HP.out.below HG1.out)
  replace HB := qh9 (chain2 HB.out HG1.out (Nat.le_refl _))
  try clear m0 m1 m2 m3 m4 m5 m6 n0 n1 n2 n3 n4 n5 n6
  go_wp2_with fail
  go_ret
  exact ⟨rfl, HB.out⟩
/-- PrinterPrints, whatever the input. -/
theorem prints_walk (r : Rw) (r0 r1 r2 r3 : Value) (n : Int) (w : World) (hr : RawAt w (Has w) r [r0, r1, r2, r3]) (hn : I64 n) (hT : EscT w) (ht : Tab w) :
 Calls Tryz.prog 4 #[.agg #[r0, r1, r2, r3], .int .i64 n] w (RetB w true) :=
 printsW r r0 r1 r2 r3 n w hr hT ht hn.1 hn.2
end Go.Proofs.YtlmnjelideegnaaGreatDoor
