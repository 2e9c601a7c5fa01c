import Derived.Test.YteaieeokfiikgaaGreatDoorAl
import Derived.Test.YteaieeokfiikgaaGreatDoorG32
import Derived.Test.YteaieeokfiikgaaGreatDoorG21
namespace Go.Proofs.YteaieeokfiikgaaGreatDoor
open Go Go.RowKit
set_option linter.unusedVariables false
mutual
theorem RawAt.more {w : World} {S S' : Nat → Prop} (hS : ∀ b, S b → S' b) : ∀ (r : Rw) (cs : List Value), RawAt w S r cs → RawAt w S' r cs
 | .mk k n s l, cs, h => by
  unfold RawAt at h ⊢
  obtain ⟨A, c, h1, h2, h3, h4, h5, h6⟩ := h
  exact ⟨A, c, h1, h2, h3, h4, h5, fun h0 => by
   obtain ⟨b, o, e, hb, hr⟩ := h6 h0
   exact ⟨b, o, e, hS b hb, RawsAt.more hS b o l hr⟩⟩
theorem RawsAt.more {w : World} {S S' : Nat → Prop} (hS : ∀ b, S b → S' b) (b o : Nat) : ∀ l : List Rw, RawsAt w S b o l → RawsAt w S' b o l
 | [], _ => by unfold RawsAt; trivial
 | r :: rs, h => by
  unfold RawsAt at h ⊢
  obtain ⟨⟨cs, h1, h2⟩, h3⟩ := h
  exact ⟨⟨cs, RawAt.more hS r cs h1, h2⟩, RawsAt.more hS b (o + 4) rs h3⟩
end
theorem raws3 {w W : World} {r s t : Rw} {r0 r1 r2 r3 s0 s1 s2 s3 t0 t1 t2 t3 : Value} (hr : RawAt w (Has w) r [r0, r1, r2, r3]) (hs : RawAt w (Has w) s [s0, s1, s2, s3]) (ht : RawAt w (Has w) t [t0, t1, t2, t3]) (hb : Below w.heap.size w W) :
 RawsAt (W.alloc (.cells #[r0, r1, r2, r3, s0, s1, s2, s3, t0, t1, t2, t3] 43)) (Has (W.alloc (.cells #[r0, r1, r2, r3, s0, s1, s2, s3, t0, t1, t2, t3] 43))) W.heap.size 0 [r, s, t] := by
 have hb' : Below w.heap.size w (W.alloc (.cells #[r0, r1, r2, r3, s0, s1, s2, s3, t0, t1, t2, t3] 43)) := Below.alloc hb hb.size _
 have hm : ∀ b, Has w b → Has (W.alloc (.cells #[r0, r1, r2, r3, s0, s1, s2, s3, t0, t1, t2, t3] 43)) b := fun b h => Nat.lt_of_lt_of_le h hb'.size
 have hrow := heap_alloc_new W (.cells #[r0, r1, r2, r3, s0, s1, s2, s3, t0, t1, t2, t3] 43)
 refine RawsAt.of [r, s, t] 0 fun i hi => ?_
 match i, hi with
 | 0, _ => exact ⟨[r0, r1, r2, r3], RawAt.more hm _ _ (hr.below (In.has w) hb'), fun j u hj => by
  rw [cell_of_row _ _ _ _ _ _ hrow]
  match j, hj with
  | 0, hj => exact hj
  | 1, hj => exact hj
  | 2, hj => exact hj
  | 3, hj => exact hj
  | m + 4, hj => simp at hj⟩
 | 1, _ => exact ⟨[s0, s1, s2, s3], RawAt.more hm _ _ (hs.below (In.has w) hb'), fun j u hj => by
  rw [cell_of_row _ _ _ _ _ _ hrow]
  match j, hj with
  | 0, hj => exact hj
  | 1, hj => exact hj
  | 2, hj => exact hj
  | 3, hj => exact hj
  | m + 4, hj => simp at hj⟩
 | 2, _ => exact ⟨[t0, t1, t2, t3], RawAt.more hm _ _ (ht.below (In.has w) hb'), fun j u hj => by
  rw [cell_of_row _ _ _ _ _ _ hrow]
  match j, hj with
  | 0, hj => exact hj
  | 1, hj => exact hj
  | 2, hj => exact hj
  | 3, hj => exact hj
  | m + 4, hj => simp at hj⟩
 | m + 3, h => exact absurd h (by simp)
theorem objs3 {w W : World} {r s t : Rw} {r0 r1 r2 r3 s0 s1 s2 s3 t0 t1 t2 t3 : Value} (hr : RawAt w (Has w) r [r0, r1, r2, r3]) (hs : RawAt w (Has w) s [s0, s1, s2, s3]) (ht : RawAt w (Has w) t [t0, t1, t2, t3]) (hb : Below w.heap.size w W) (hT : Tab W)
 (fr : few r 20 = true) (fs : few s 20 = true) (ft : few t 20 = true) :
 Calls Tryz.prog 19 #[.slice (some ⟨W.heap.size, 0, none⟩) 3 3] (W.alloc (.cells #[r0, r1, r2, r3, s0, s1, s2, s3, t0, t1, t2, t3] 43)) (RetAr (W.alloc (.cells #[r0, r1, r2, r3, s0, s1, s2, s3, t0, t1, t2, t3] 43)) 3) := by
 have hf : ∀ i (hi : i < [r, s, t].length), few [r, s, t][i] (20 : Nat) = true := fun i hi => by
  match i, hi with
  | 0, _ => exact fr
  | 1, _ => exact fs
  | 2, _ => exact ft
  | m + 3, h => exact absurd h (by simp)
 have hn : Below W.heap.size W (W.alloc (.cells #[r0, r1, r2, r3, s0, s1, s2, s3, t0, t1, t2, t3] 43)) := Below.alloc (Below.refl _ _) (Nat.le_refl _) _
 exact (objectsO [r, s, t] (some ⟨W.heap.size, 0, none⟩) 3 _ (Has _) (In.has _) (by show 3 ≤ 8; decide) (Nat.le_refl _) (hT.below hn) (fun _ => ⟨_, _, rfl, by show _ < _; simp, raws3 hr hs ht hb⟩) (fun x hx => by
  obtain ⟨i, hi, rfl⟩ := List.getElem_of_mem hx
  exact (few_ok (hf i hi)).1)).mono fun _ _ h => h.ar (by have := cnts_le _ 20 hf; simp at this; omega)
theorem Ar.take {w : World} {os : List Ob} {b o c k : Nat} (h : Ar w os (.slice (some ⟨b, o, none⟩) os.length c)) (hk : k ≤ os.length) : Ar w (os.take k) (.slice (some ⟨b, o, none⟩) k c) := by
 obtain ⟨A, c', e, h2, h3⟩ := h
 injection e with e1 e2 e3
 subst e1 e3
 have hl : (os.take k).length = k := by rw [List.length_take]; omega
 refine ⟨_, c, by rw [hl], by omega, fun h0 => ?_⟩
 obtain ⟨b', o', e4, h5⟩ := h3 (by omega)
 injection e4 with e4
 injection e4 with e5 e6
 subst e5 e6
 exact ⟨b, o, rfl, fun i hi => by
  rw [hl] at hi
  obtain ⟨p, hp⟩ := h5 i (by omega)
  exact ⟨p, by rw [List.getElem_take]; exact hp⟩⟩
theorem arI_three (i : Nat) (hi : i < 25) : ∃ k : Nat, arI i = (k : Int) ∧ k ≤ 3 := by
 rcases arity_cases i hi with ⟨h, _⟩ | h | h <;> exact ⟨_, rfl, by rw [h]; decide⟩
set_option maxHeartbeats 16000000 in
set_option maxRecDepth 100000 in
theorem lawFits (n : Int) (r : Rw) (r0 r1 r2 r3 : Value) (s : Rw) (s0 s1 s2 s3 : Value) (t : Rw) (t0 t1 t2 t3 : Value) (w : World) (h64 : I64 n) (hrr : RawAt w (Has w) r [r0, r1, r2, r3]) (hrs : RawAt w (Has w) s [s0, s1, s2, s3]) (hrt : RawAt w (Has w) t [t0, t1, t2, t3]) (ht : Tab w) :
 Calls Tryz.prog 5 #[.int .i64 n, .agg #[r0, r1, r2, r3], .agg #[s0, s1, s2, s3], .agg #[t0, t1, t2, t3]] w (RetB w true) := by
 have Rr := qh9 hrr
 clear hrr
 have CFr : Hid (∀ W', Below w.heap.size w W' → Calls Tryz.prog 23 #[.agg #[r0, r1, r2, r3], .int .i64 20] W' (RetB W' (few r 20))) := fun W' h => fewO r [r0, r1, r2, r3] 20 W' (Has w) (In.has w |>.later h.size) (Rr.out.below (In.has w) h) (by decide) (by decide)
 have Rs := qh9 hrs
 clear hrs
 have CFs : Hid (∀ W', Below w.heap.size w W' → Calls Tryz.prog 23 #[.agg #[s0, s1, s2, s3], .int .i64 20] W' (RetB W' (few s 20))) := fun W' h => fewO s [s0, s1, s2, s3] 20 W' (Has w) (In.has w |>.later h.size) (Rs.out.below (In.has w) h) (by decide) (by decide)
 have Rt := qh9 hrt
 clear hrt
 have CFt : Hid (∀ W', Below w.heap.size w W' → Calls Tryz.prog 23 #[.agg #[t0, t1, t2, t3], .int .i64 20] W' (RetB W' (few t 20))) := fun W' h => fewO t [t0, t1, t2, t3] 20 W' (Has w) (In.has w |>.later h.size) (Rt.out.below (In.has w) h) (by decide) (by decide)
 have COb : Hid (few r 20 = true → few s 20 = true → few t 20 = true → ∀ W', Below w.heap.size w W' → Tab W' → Calls Tryz.prog 19 #[.slice (some ⟨W'.heap.size, 0, none⟩) 3 3] (W'.alloc (.cells #[r0, r1, r2, r3, s0, s1, s2, s3, t0, t1, t2, t3] 43)) (RetAr (W'.alloc (.cells #[r0, r1, r2, r3, s0, s1, s2, s3, t0, t1, t2, t3] 43)) 3)) := fun f1 f2 f3 W' h hT => objs3 Rr.out Rs.out Rt.out h hT f1 f2 f3
 generalize few r 20 = fr at CFr COb
 generalize few s 20 = fs at CFs COb
 generalize few t 20 = ft at CFt COb
 obtain ⟨i, hi0⟩ : ∃ i, (n % 25).toNat = i := ⟨_, rfl⟩
 have hi : i < 25 := by omega
 have CN : Hid (∀ W, Calls Tryz.prog 17 #[.int .i64 n] W (RetY W (.agg #[.string (BA lispB), .string (nmS i)]))) := fun W => by have h := pickO n W h64; rw [hi0] at h; exact h
 have CP : Hid (∀ os v W, Ar W os v → (∀ o ∈ os, Sml o) → Tab W → Calls Tryz.prog 20 #[.agg #[.string (BA lispB), .string (nmS i)], v] W (RetU W (appV true (some i) os))) := fun os v W => applyPS i hi os v W
 have CR : Hid (∀ os v W, Ar W os v → (∀ o ∈ os, Sml o) → Tab W → Calls Tryz.prog 21 #[.agg #[.string (BA lispB), .string (nmS i)], v] W (RetU W (appV true (some i) os))) := fun os v W => applyRS i hi os v W
 have GP : Hid (∀ os v W, Ar W os v → (∀ o ∈ os, Sml o) → Tab W → Calls Tryz.prog 24 #[.agg #[.string (BA lispB), .string (nmS i)], v] W (RetB W (grdV (some i) os))) := fun os v W => guardPS i hi os v W
 have GR : Hid (∀ os v W, Ar W os v → (∀ o ∈ os, Sml o) → Tab W → Calls Tryz.prog 25 #[.agg #[.string (BA lispB), .string (nmS i)], v] W (RetB W (grdV (some i) os))) := fun os v W => guardRS i hi os v W
 obtain ⟨kn, hk, hk3⟩ := arI_three i hi
 have CA : Hid (∀ W, Calls Tryz.prog 16 #[.agg #[.string (BA lispB), .string (nmS i)]] W (RetIB W (kn : Int) true)) := fun W => by have h := arityR (BA lispB) (nmS i) W; rw [fnd_at i hi] at h; rw [← hk]; exact h
 clear hi hi0 h64 hk
 generalize nmS i = nm at *
 generalize BA lispB = LB at *
 have HT := qh9 ht
 clear ht Rr Rs Rt
 go_enter Tryz.func5, Tryz.ntmps5
 go_upto_region 1 with fail
 have hBX := Box3.new w #[r0, r1, r2, r3] #[s0, s1, s2, s3] #[t0, t1, t2, t3]
 generalize (((w.alloc (.cells #[r0, r1, r2, r3] 43)).alloc (.cells #[s0, s1, s2, s3] 43)).alloc (.cells #[t0, t1, t2, t3] 43)) = W at hBX ⊢
 have HW := qh9 hBX.bel
 replace HT := qh9 (HT.out.below hBX.bel)
 have BX := qh9 hBX
 clear hBX
 go_wp2_with fail
 with_reducible refine (first7 _ HT.out).mono ?_
 rintro e w1 ⟨rfl, hb⟩
 replace HT := qh9 (HT.out.below hb)
 replace HW := qc9 HW hb
 replace BX := qh9 (BX.out.below hb)
 clear hb
 obtain ⟨⟨a0, a1, a2, a3⟩, ⟨b0, b1, b2, b3⟩, ⟨c0, c1, c2, c3⟩⟩ := BX.out.cells
 go_wp2_with fail
 clear a0 a1 a2 a3 b0 b1 b2 b3 c0 c1 c2 c3
 with_reducible refine (CFr.out _ HW.out).mono ?_
 rintro e w2 ⟨rfl, hb⟩
 replace HT := qh9 (HT.out.below hb)
 replace HW := qc9 HW hb
 replace BX := qh9 (BX.out.below hb)
 clear hb
 cases fr with
 | false =>
  go_wp2
  all_goals go_ret
  all_goals exact ⟨rfl, HW.out⟩
 | true =>
  obtain ⟨⟨a0, a1, a2, a3⟩, ⟨b0, b1, b2, b3⟩, ⟨c0, c1, c2, c3⟩⟩ := BX.out.cells
  go_wp2_with fail
  clear a0 a1 a2 a3 b0 b1 b2 b3 c0 c1 c2 c3
  with_reducible refine (CFs.out _ HW.out).mono ?_
  rintro e w3 ⟨rfl, hb⟩
  replace HT := qh9 (HT.out.below hb)
  replace HW := qc9 HW hb
  replace BX := qh9 (BX.out.below hb)
  clear hb
  cases fs with
  | false =>
   go_wp2
   all_goals go_ret
   all_goals exact ⟨rfl, HW.out⟩
  | true =>
   obtain ⟨⟨a0, a1, a2, a3⟩, ⟨b0, b1, b2, b3⟩, ⟨c0, c1, c2, c3⟩⟩ := BX.out.cells
   go_wp2_with fail
   clear a0 a1 a2 a3 b0 b1 b2 b3 c0 c1 c2 c3
   with_reducible refine (CFt.out _ HW.out).mono ?_
   rintro e w4 ⟨rfl, hb⟩
   replace HT := qh9 (HT.out.below hb)
   replace HW := qc9 HW hb
   replace BX := qh9 (BX.out.below hb)
   clear hb
   cases ft with
   | false =>
    go_wp2
    all_goals go_ret
    all_goals exact ⟨rfl, HW.out⟩
   | true =>
    go_wp2_with fail
    with_reducible refine (CN.out _).mono ?_
    rintro e w5 ⟨rfl, hb⟩
    replace HT := qh9 (HT.out.below hb)
    replace HW := qc9 HW hb
    replace BX := qh9 (BX.out.below hb)
    clear hb
    go_wp2_with fail
    with_reducible refine (CA.out _).mono ?_
    rintro e w6 ⟨rfl, hb⟩
    replace HT := qh9 (HT.out.below hb)
    replace HW := qc9 HW hb
    replace BX := qh9 (BX.out.below hb)
    clear hb
    obtain ⟨⟨a0, a1, a2, a3⟩, ⟨b0, b1, b2, b3⟩, ⟨c0, c1, c2, c3⟩⟩ := BX.out.cells
    go_wp2_with fail
    clear a0 a1 a2 a3 b0 b1 b2 b3 c0 c1 c2 c3
    have call := COb.out (by simp) (by simp) (by simp) w6 HW.out HT.out
    have hb : Below w6.heap.size w6 (w6.alloc (.cells #[r0, r1, r2, r3, s0, s1, s2, s3, t0, t1, t2, t3] 43)) := Below.alloc (Below.refl _ _) (Nat.le_refl _) _
    generalize w6.alloc (.cells #[r0, r1, r2, r3, s0, s1, s2, s3, t0, t1, t2, t3] 43) = Y at hb call ⊢
    replace HT := qh9 (HT.out.below hb)
    replace HW := qc9 HW hb
    replace BX := qh9 (BX.out.below hb)
    clear hb
    with_reducible refine call.mono ?_
    rintro e w7 ⟨os, v, rfl, ha, hl, hs, hb⟩
    replace HT := qh9 (HT.out.below hb)
    replace HW := qc9 HW hb
    replace BX := qh9 (BX.out.below hb)
    clear hb call
    obtain ⟨A, c, rfl, hc, hA⟩ := id ha
    obtain ⟨b0, o0, rfl, _⟩ := hA (by rw [hl]; decide)
    have h1 := qh9 (ha.take (k := kn) (by rw [hl]; exact hk3))
    have HS : Hid (∀ o ∈ os.take kn, Sml o) := fun o ho => hs o (List.mem_of_mem_take ho)
    rw [hl] at hc ⊢
    have hkc : (kn : Int) ≤ (c : Int) := by omega
    have hk0 : (0 : Int) ≤ (kn : Int) := by omega
    clear ha hA hl hs
    generalize os.take kn = os1 at h1 HS
    have CP1 : Hid (∀ W, Ar W os1 (.slice (some ⟨b0, o0, none⟩) kn c) → Tab W → _) := fun W h t => CP.out os1 _ W h HS.out t
    have CR1 : Hid (∀ W, Ar W os1 (.slice (some ⟨b0, o0, none⟩) kn c) → Tab W → _) := fun W h t => CR.out os1 _ W h HS.out t
    have GP1 : Hid (∀ W, Ar W os1 (.slice (some ⟨b0, o0, none⟩) kn c) → Tab W → _) := fun W h t => GP.out os1 _ W h HS.out t
    have GR1 : Hid (∀ W, Ar W os1 (.slice (some ⟨b0, o0, none⟩) kn c) → Tab W → _) := fun W h t => GR.out os1 _ W h HS.out t
    clear CP CR GP GR COb HS
    generalize appV true (some i) os1 = rz at CP1 CR1
    generalize grdV (some i) os1 = gd at GP1 GR1
    obtain ⟨ro, rn⟩ := rz
    obtain ⟨⟨a0, a1, a2, a3⟩, ⟨b0, b1, b2, b3⟩, ⟨c0, c1, c2, c3⟩⟩ := BX.out.cells
    go_wp2_with fail
    clear a0 a1 a2 a3 b0 b1 b2 b3 c0 c1 c2 c3
    with_reducible refine (CN.out _).mono ?_
    rintro e w8 ⟨rfl, hb⟩
    replace HT := qh9 (HT.out.below hb)
    replace HW := qc9 HW hb
    replace BX := qh9 (BX.out.below hb)
    replace h1 := qh9 (h1.out.below hb)
    clear hb
    go_wp2_with fail
    with_reducible refine (CP1.out _ h1.out HT.out).mono ?_
    rintro e w9 ⟨cs, rfl, u1, hb⟩
    replace HT := qh9 (HT.out.below hb)
    replace HW := qc9 HW hb
    replace BX := qh9 (BX.out.below hb)
    replace h1 := qh9 (h1.out.below hb)
    clear hb
    replace u1 := qh9 u1
    have N1 := qh9 (Bx1.new w9 #[.int .i64 0, .string ⟨#[]⟩, .string ⟨#[]⟩, .string ⟨#[]⟩, .string ⟨#[]⟩, .string ⟨#[]⟩, .slice none 0 0])
    go_upto_region 8 with ((with_reducible refine storeU (w1 := w9) (g := w9.heap.size) (cs := cs) (r := (ro, rn)) (.tmp 12) (.tmp 49) ?_ ?_ ?_ ?_ u1.out N1.out.b0 ?_); rfl; rfl; rfl; rfl)
    have Q := boxU w9 #[.int .i64 0, .string ⟨#[]⟩, .string ⟨#[]⟩, .string ⟨#[]⟩, .string ⟨#[]⟩, .string ⟨#[]⟩, .slice none 0 0] cs
    generalize World.setRow (w9.alloc (.cells #[.int .i64 0, .string ⟨#[]⟩, .string ⟨#[]⟩, .string ⟨#[]⟩, .string ⟨#[]⟩, .string ⟨#[]⟩, .slice none 0 0] 36)) w9.heap.size cs = X9 at Q ⊢
    have hb := Q.1
    replace HT := qh9 (HT.out.below hb)
    replace HW := qc9 HW hb
    replace BX := qh9 (BX.out.below hb)
    replace h1 := qh9 (h1.out.below hb)
    replace u1 := qh9 (u1.out.below hb)
    have B1 := qh9 Q.2
    clear hb Q N1
    obtain ⟨⟨a0, a1, a2, a3⟩, ⟨b0, b1, b2, b3⟩, ⟨c0, c1, c2, c3⟩⟩ := BX.out.cells
    go_wp2_with fail
    clear a0 a1 a2 a3 b0 b1 b2 b3 c0 c1 c2 c3
    with_reducible refine (CN.out _).mono ?_
    rintro e w10 ⟨rfl, hb⟩
    replace HT := qh9 (HT.out.below hb)
    replace HW := qc9 HW hb
    replace BX := qh9 (BX.out.below hb)
    replace h1 := qh9 (h1.out.below hb)
    replace u1 := qh9 (u1.out.below hb)
    replace B1 := qh9 (B1.out.keep hb)
    clear hb
    go_wp2_with fail
    with_reducible refine (CR1.out _ h1.out HT.out).mono ?_
    rintro e w11 ⟨ds, rfl, u2, hb⟩
    replace HT := qh9 (HT.out.below hb)
    replace HW := qc9 HW hb
    replace BX := qh9 (BX.out.below hb)
    replace h1 := qh9 (h1.out.below hb)
    replace u1 := qh9 (u1.out.below hb)
    replace B1 := qh9 (B1.out.keep hb)
    clear hb
    replace u2 := qh9 u2
    have N1 := qh9 (Bx1.new w11 #[.int .i64 0, .string ⟨#[]⟩, .string ⟨#[]⟩, .string ⟨#[]⟩, .string ⟨#[]⟩, .string ⟨#[]⟩, .slice none 0 0])
    go_upto_region 9 with ((with_reducible refine storeU (w1 := w11) (g := w11.heap.size) (cs := ds) (r := (ro, rn)) (.tmp 14) (.tmp 56) ?_ ?_ ?_ ?_ u2.out N1.out.b0 ?_); rfl; rfl; rfl; rfl)
    have Q := boxU w11 #[.int .i64 0, .string ⟨#[]⟩, .string ⟨#[]⟩, .string ⟨#[]⟩, .string ⟨#[]⟩, .string ⟨#[]⟩, .slice none 0 0] ds
    generalize World.setRow (w11.alloc (.cells #[.int .i64 0, .string ⟨#[]⟩, .string ⟨#[]⟩, .string ⟨#[]⟩, .string ⟨#[]⟩, .string ⟨#[]⟩, .slice none 0 0] 36)) w11.heap.size ds = X11 at Q ⊢
    have hb := Q.1
    replace HT := qh9 (HT.out.below hb)
    replace HW := qc9 HW hb
    replace BX := qh9 (BX.out.below hb)
    replace h1 := qh9 (h1.out.below hb)
    replace u1 := qh9 (u1.out.below hb)
    replace B1 := qh9 (B1.out.keep hb)
    replace u2 := qh9 (u2.out.below hb)
    have B2 := qh9 Q.2
    clear hb Q N1
    go_wp2_with (first | ((with_reducible refine loadU (.tmp 12) ?_ ?_ ?_ B1.out u1.out ?_); rfl; rfl; rfl) | ((with_reducible refine loadUG (.tmp 12) ?_ ?_ ?_ B1.out u1.out ?_); rfl; rfl; rfl) | ((with_reducible refine loadU (.tmp 14) ?_ ?_ ?_ B2.out u2.out ?_); rfl; rfl; rfl) | ((with_reducible refine loadUG (.tmp 14) ?_ ?_ ?_ B2.out u2.out ?_); rfl; rfl; rfl))
    with_reducible refine (eqU u1.out u2.out).mono ?_
    rintro e w12 ⟨rfl, hb⟩
    replace HT := qh9 (HT.out.below hb)
    replace HW := qc9 HW hb
    replace BX := qh9 (BX.out.below hb)
    replace h1 := qh9 (h1.out.below hb)
    replace u1 := qh9 (u1.out.below hb)
    replace B1 := qh9 (B1.out.keep hb)
    replace u2 := qh9 (u2.out.below hb)
    replace B2 := qh9 (B2.out.keep hb)
    clear hb
    go_wp2_with (first | ((with_reducible refine loadU (.tmp 12) ?_ ?_ ?_ B1.out u1.out ?_); rfl; rfl; rfl) | ((with_reducible refine loadUG (.tmp 12) ?_ ?_ ?_ B1.out u1.out ?_); rfl; rfl; rfl) | ((with_reducible refine loadU (.tmp 14) ?_ ?_ ?_ B2.out u2.out ?_); rfl; rfl; rfl) | ((with_reducible refine loadUG (.tmp 14) ?_ ?_ ?_ B2.out u2.out ?_); rfl; rfl; rfl))
    with_reducible refine (CN.out _).mono ?_
    rintro e w13 ⟨rfl, hb⟩
    replace HT := qh9 (HT.out.below hb)
    replace HW := qc9 HW hb
    replace BX := qh9 (BX.out.below hb)
    replace h1 := qh9 (h1.out.below hb)
    replace u1 := qh9 (u1.out.below hb)
    replace B1 := qh9 (B1.out.keep hb)
    replace u2 := qh9 (u2.out.below hb)
    replace B2 := qh9 (B2.out.keep hb)
    clear hb
    go_wp2_with fail
    with_reducible refine (GP1.out _ h1.out HT.out).mono ?_
    rintro e w14 ⟨rfl, hb⟩
    replace HT := qh9 (HT.out.below hb)
    replace HW := qc9 HW hb
    replace BX := qh9 (BX.out.below hb)
    replace h1 := qh9 (h1.out.below hb)
    replace u1 := qh9 (u1.out.below hb)
    replace B1 := qh9 (B1.out.keep hb)
    replace u2 := qh9 (u2.out.below hb)
    replace B2 := qh9 (B2.out.keep hb)
    clear hb
    go_wp2_with fail
    with_reducible refine (CN.out _).mono ?_
    rintro e w15 ⟨rfl, hb⟩
    replace HT := qh9 (HT.out.below hb)
    replace HW := qc9 HW hb
    replace BX := qh9 (BX.out.below hb)
    replace h1 := qh9 (h1.out.below hb)
    replace u1 := qh9 (u1.out.below hb)
    replace B1 := qh9 (B1.out.keep hb)
    replace u2 := qh9 (u2.out.below hb)
    replace B2 := qh9 (B2.out.keep hb)
    clear hb
    go_wp2_with fail
    with_reducible refine (GR1.out _ h1.out HT.out).mono ?_
    rintro e w16 ⟨rfl, hb⟩
    replace HT := qh9 (HT.out.below hb)
    replace HW := qc9 HW hb
    replace BX := qh9 (BX.out.below hb)
    replace h1 := qh9 (h1.out.below hb)
    replace u1 := qh9 (u1.out.below hb)
    replace B1 := qh9 (B1.out.keep hb)
    replace u2 := qh9 (u2.out.below hb)
    replace B2 := qh9 (B2.out.keep hb)
    clear hb
    go_wp2
    go_ret
    exact ⟨rfl, HW.out⟩
end Go.Proofs.YteaieeokfiikgaaGreatDoor
