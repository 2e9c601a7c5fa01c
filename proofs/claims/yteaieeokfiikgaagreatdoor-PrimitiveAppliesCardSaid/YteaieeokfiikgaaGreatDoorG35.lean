import Derived.Test.YteaieeokfiikgaaGreatDoorAl
import Derived.Test.YteaieeokfiikgaaGreatDoorG32
namespace Go.Proofs.YteaieeokfiikgaaGreatDoor
open Go Go.RowKit
set_option linter.unusedVariables false
set_option maxHeartbeats 16000000 in
set_option maxRecDepth 100000 in
theorem lawApplies (n : Int) (l : List Rw) (A : Option Addr) (c : Nat) (w : World) (h64 : I64 n) (hc : l.length ≤ c) (hcm : c ≤ maxLen) (hA : 0 < l.length → ∃ b o, A = some ⟨b, o, none⟩ ∧ Has w b ∧ RawsAt w (Has w) b o l) (ht : Tab w) :
 Calls Tryz.prog 4 #[.int .i64 n, .slice A l.length c] w (RetB w true) := by
 have HA0 : Hid (∀ W', Below w.heap.size w W' → 0 < l.length → ∃ b o, A = some ⟨b, o, none⟩ ∧ Has w b ∧ RawsAt W' (Has w) b o l) := fun W' hb h0 => by
  obtain ⟨b, o, e, hbb, hr⟩ := hA h0
  exact ⟨b, o, e, hbb, RawsAt.keep (fun q hq => hb.cell (In.has w q.block hq)) b o hbb l hr⟩
 clear hA
 have CFA : Hid (∀ W', Below w.heap.size w W' → Calls Tryz.prog 18 #[.slice A l.length c, .int .i64 12] W' (fun e w' => ∃ t, e = .returned (.bool t) ∧ Below W'.heap.size W' w' ∧ (t = true → l.length ≤ 8 ∧ ∀ i (hi : i < l.length), few l[i] 12 = true))) := fun W' h =>
  fewAllO l A c 12 W' (Has w) (In.has w |>.later h.size) hc hcm (by decide) (by decide) (HA0.out W' h)
 have COb : Hid ((l.length ≤ 8 ∧ ∀ i (hi : i < l.length), few l[i] 12 = true) → ∀ W', Below w.heap.size w W' → Tab W' → Calls Tryz.prog 19 #[.slice A l.length c] W' (RetAr W' l.length)) := fun hf W' h ht' =>
  (objectsO l A c W' (Has w) (In.has w |>.later h.size) hf.1 hc ht' (HA0.out W' h) (fun x hx => by
    obtain ⟨i, hi, rfl⟩ := List.getElem_of_mem hx
    exact (few_ok (hf.2 i hi)).1)).mono fun _ _ hr => hr.ar (by have := cnts_le l 12 hf.2; have := hf.1; omega)
 obtain ⟨i, hi0⟩ : ∃ i, (n % 25).toNat = i := ⟨_, rfl⟩
 have hi : i < 25 := by omega
 have CN : Hid (∀ W, Calls Tryz.prog 17 #[.int .i64 n] W (RetY W (.agg #[.string (BA lispB), .string (nmS i)]))) := fun W => by have h := pickO n W h64; rw [hi0] at h; exact h
 have CP : Hid (∀ os v W, Ar W os v → (∀ o ∈ os, Sml o) → Tab W → Calls Tryz.prog 20 #[.agg #[.string (BA lispB), .string (nmS i)], v] W (RetU W (appV true (some i) os))) := fun os v W => applyPS i hi os v W
 have CR : Hid (∀ os v W, Ar W os v → (∀ o ∈ os, Sml o) → Tab W → Calls Tryz.prog 21 #[.agg #[.string (BA lispB), .string (nmS i)], v] W (RetU W (appV true (some i) os))) := fun os v W => applyRS i hi os v W
 clear hi hi0 h64 HA0 hc hcm
 generalize nmS i = nm at *
 generalize BA lispB = LB at *
 generalize (l.length ≤ 8 ∧ ∀ i (hi : i < l.length), few l[i] 12 = true) = OKP at CFA COb
 generalize l.length = L at *
 have HT := qh9 ht
 have HW := qh9 (Below.refl w.heap.size w)
 clear ht
 go_enter Tryz.func4, Tryz.ntmps4
 go_wp2_with fail
 with_reducible refine (first7 _ HT.out).mono ?_
 rintro e w1 ⟨rfl, hb⟩
 replace HT := qh9 (HT.out.below hb)
 replace HW := qc9 HW hb
 clear hb
 go_wp2_with fail
 with_reducible refine (CFA.out _ HW.out).mono ?_
 rintro e w2 ⟨t, rfl, hb, hok⟩
 replace HT := qh9 (HT.out.below hb)
 replace HW := qc9 HW hb
 clear hb
 cases t with
 | false =>
  clear hok
  go_wp2
  go_ret
  exact ⟨rfl, HW.out⟩
 | true =>
  have HK := qh9 (hok rfl)
  clear hok
  go_wp2_with fail
  with_reducible refine (COb.out HK.out _ HW.out HT.out).mono ?_
  rintro e w3 ⟨os, v, rfl, ha, hl, hs, hb⟩
  replace HT := qh9 (HT.out.below hb)
  replace HW := qc9 HW hb
  clear hb hl
  have HA := qh9 ha
  have CP1 : Hid (∀ W, Ar W os v → Tab W → _) := fun W h t => CP.out os v W h hs t
  have CR1 : Hid (∀ W, Ar W os v → Tab W → _) := fun W h t => CR.out os v W h hs t
  clear CP CR ha hs HK COb CFA
  generalize appV true (some i) os = r at CP1 CR1
  obtain ⟨ro, rn⟩ := r
  go_wp2_with fail
  with_reducible refine (CN.out _).mono ?_
  rintro e w4 ⟨rfl, hb⟩
  replace HT := qh9 (HT.out.below hb)
  replace HW := qc9 HW hb
  replace HA := qh9 (HA.out.below hb)
  clear hb
  go_wp2_with fail
  with_reducible refine (CP1.out _ HA.out HT.out).mono ?_
  rintro e w5 ⟨cs, rfl, u1, hb⟩
  replace HT := qh9 (HT.out.below hb)
  replace HW := qc9 HW hb
  replace HA := qh9 (HA.out.below hb)
  clear hb
  replace u1 := qh9 u1
  have N1 := qh9 (Bx1.new w5 #[.int .i64 0, .string ⟨#[]⟩, .string ⟨#[]⟩, .string ⟨#[]⟩, .string ⟨#[]⟩, .string ⟨#[]⟩, .slice none 0 0])
  go_upto_region 7 with ((with_reducible refine storeU (w1 := w5) (g := w5.heap.size) (cs := cs) (r := (ro, rn)) (.tmp 6) (.tmp 22) ?_ ?_ ?_ ?_ u1.out N1.out.b0 ?_); rfl; rfl; rfl; rfl)
  have Q := boxU w5 #[.int .i64 0, .string ⟨#[]⟩, .string ⟨#[]⟩, .string ⟨#[]⟩, .string ⟨#[]⟩, .string ⟨#[]⟩, .slice none 0 0] cs
  generalize World.setRow (w5.alloc (.cells #[.int .i64 0, .string ⟨#[]⟩, .string ⟨#[]⟩, .string ⟨#[]⟩, .string ⟨#[]⟩, .string ⟨#[]⟩, .slice none 0 0] 36)) w5.heap.size cs = X5 at Q ⊢
  have hb := Q.1
  replace HT := qh9 (HT.out.below hb)
  replace HW := qc9 HW hb
  replace HA := qh9 (HA.out.below hb)
  replace u1 := qh9 (u1.out.below hb)
  have B1 := qh9 Q.2
  clear hb Q N1
  go_wp2_with fail
  with_reducible refine (CN.out _).mono ?_
  rintro e w6 ⟨rfl, hb⟩
  replace HT := qh9 (HT.out.below hb)
  replace HW := qc9 HW hb
  replace HA := qh9 (HA.out.below hb)
  replace u1 := qh9 (u1.out.below hb)
  replace B1 := qh9 (B1.out.keep hb)
  clear hb
  go_wp2_with fail
  with_reducible refine (CR1.out _ HA.out HT.out).mono ?_
  rintro e w7 ⟨ds, rfl, u2, hb⟩
  replace HT := qh9 (HT.out.below hb)
  replace HW := qc9 HW hb
  replace HA := qh9 (HA.out.below hb)
  replace u1 := qh9 (u1.out.below hb)
  replace B1 := qh9 (B1.out.keep hb)
  clear hb
  replace u2 := qh9 u2
  have N1 := qh9 (Bx1.new w7 #[.int .i64 0, .string ⟨#[]⟩, .string ⟨#[]⟩, .string ⟨#[]⟩, .string ⟨#[]⟩, .string ⟨#[]⟩, .slice none 0 0])
  go_upto_region 8 with ((with_reducible refine storeU (w1 := w7) (g := w7.heap.size) (cs := ds) (r := (ro, rn)) (.tmp 8) (.tmp 29) ?_ ?_ ?_ ?_ u2.out N1.out.b0 ?_); rfl; rfl; rfl; rfl)
  have Q := boxU w7 #[.int .i64 0, .string ⟨#[]⟩, .string ⟨#[]⟩, .string ⟨#[]⟩, .string ⟨#[]⟩, .string ⟨#[]⟩, .slice none 0 0] ds
  generalize World.setRow (w7.alloc (.cells #[.int .i64 0, .string ⟨#[]⟩, .string ⟨#[]⟩, .string ⟨#[]⟩, .string ⟨#[]⟩, .string ⟨#[]⟩, .slice none 0 0] 36)) w7.heap.size ds = X7 at Q ⊢
  have hb := Q.1
  replace HT := qh9 (HT.out.below hb)
  replace HW := qc9 HW hb
  replace HA := qh9 (HA.out.below hb)
  replace u1 := qh9 (u1.out.below hb)
  replace B1 := qh9 (B1.out.keep hb)
  replace u2 := qh9 (u2.out.below hb)
  have B2 := qh9 Q.2
  clear hb Q N1
  go_wp2_with (first | ((with_reducible refine loadU (.tmp 6) ?_ ?_ ?_ B1.out u1.out ?_); rfl; rfl; rfl) | ((with_reducible refine loadUG (.tmp 6) ?_ ?_ ?_ B1.out u1.out ?_); rfl; rfl; rfl) | ((with_reducible refine loadU (.tmp 8) ?_ ?_ ?_ B2.out u2.out ?_); rfl; rfl; rfl) | ((with_reducible refine loadUG (.tmp 8) ?_ ?_ ?_ B2.out u2.out ?_); rfl; rfl; rfl))
  with_reducible refine (eqU u1.out u2.out).mono ?_
  rintro e w8 ⟨rfl, hb⟩
  replace HT := qh9 (HT.out.below hb)
  replace HW := qc9 HW hb
  replace HA := qh9 (HA.out.below hb)
  replace u1 := qh9 (u1.out.below hb)
  replace B1 := qh9 (B1.out.keep hb)
  replace u2 := qh9 (u2.out.below hb)
  replace B2 := qh9 (B2.out.keep hb)
  clear hb
  go_wp2
  go_ret
  exact ⟨rfl, HW.out⟩
end Go.Proofs.YteaieeokfiikgaaGreatDoor
