/- Results of several objects; the program's parts. -/
import Derived.Test.YtocbedijpomemaaGreatDoorG19
import Derived.BigRegion
import Derived.Test.YtocbedijpomemaaGreatDoorG11
namespace Go.Proofs.YtocbedijpomemaaGreatDoor
open Go Go.RowKit
set_option linter.unusedVariables false
set_option maxHeartbeats 32000000
set_option maxRecDepth 100000
theorem load_row7 (w : World) (g : Nat) (cs : Array Value) (hg : Bx w g cs) (hs : cs.size = 7) : (loadVar 35 ⟨g, 0, none⟩).run Tryz.prog w = .ok (.agg cs) w :=
 run_loadVar_row w g 35 35 cs (0, 0) _ hg Tryz.underlying35 rfl (by rw [hs]; kernel_rfl)
theorem results_ccc {fn : Func} {r0 r1 r2 : Tmp} (h : fn.results = #[.cell r0 35, .cell r1 35, .cell r2 35]) (tmps : Array Value) (w : World) (g0 g1 g2 : Nat) (c0 c1 c2 : Array Value)
 (h0 : tmps.getD r0 undef = .pointer (some ⟨g0, 0, none⟩)) (h1 : tmps.getD r1 undef = .pointer (some ⟨g1, 0, none⟩)) (h2 : tmps.getD r2 undef = .pointer (some ⟨g2, 0, none⟩))
 (b0 : Bx w g0 c0) (b1 : Bx w g1 c1) (b2 : Bx w g2 c2) (s0 : c0.size = 7) (s1 : c1.size = 7) (s2 : c2.size = 7) :
 (results fn tmps).run Tryz.prog w = .ok (.tuple #[.agg c0, .agg c1, .agg c2]) w := by
 have h0' : tmps[r0]?.getD undef = .pointer (some ⟨g0, 0, none⟩) := by simpa using h0
 have h1' : tmps[r1]?.getD undef = .pointer (some ⟨g1, 0, none⟩) := by simpa using h1
 have h2' : tmps[r2]?.getD undef = .pointer (some ⟨g2, 0, none⟩) := by simpa using h2
 simp [results, h, h0', h1', h2', asAddr, Sem.run_bind, load_row7 w g0 c0 b0 s0, load_row7 w g1 c1 b1 s1, load_row7 w g2 c2 b2 s2]
theorem results_cs {fn : Func} {r0 r1 : Tmp} (h : fn.results = #[.cell r0 35, .tmp r1]) (tmps : Array Value) (w : World) (g0 : Nat) (c0 : Array Value)
 (h0 : tmps.getD r0 undef = .pointer (some ⟨g0, 0, none⟩)) (b0 : Bx w g0 c0) (s0 : c0.size = 7) :
 (results fn tmps).run Tryz.prog w = .ok (.tuple #[.agg c0, tmps.getD r1 undef]) w := by
 have h0' : tmps[r0]?.getD undef = .pointer (some ⟨g0, 0, none⟩) := by simpa using h0
 simp [results, h, h0', asAddr, load_row7 w g0 c0 b0 s0]
def RetP (w : World) (o0 o1 o2 : Ob) (e : Ending) (w' : World) : Prop :=
 ∃ p0 p1 p2, e = .returned (.tuple #[vO o0 p0, vO o1 p1, vO o2 p2]) ∧ Hd w' o0 p0 ∧ Hd w' o1 p1 ∧ Hd w' o2 p2 ∧ Below w.heap.size w w'

theorem retP {fn : Func} {r0 r1 r2 : Tmp} {tmps : Array Value} {w0 w : World} {g0 g1 g2 : Nat} {o0 o1 o2 : Ob} {p0 p1 p2 : Value} (h : fn.results = #[.cell r0 35, .cell r1 35, .cell r2 35])
 (h0 : tmps.getD r0 undef = .pointer (some ⟨g0, 0, none⟩)) (h1 : tmps.getD r1 undef = .pointer (some ⟨g1, 0, none⟩)) (h2 : tmps.getD r2 undef = .pointer (some ⟨g2, 0, none⟩))
 (b0 : Bx w g0 (cellsO o0 p0).toArray) (b1 : Bx w g1 (cellsO o1 p1).toArray) (b2 : Bx w g2 (cellsO o2 p2).toArray)
 (k0 : Hd w o0 p0) (k1 : Hd w o1 p1) (k2 : Hd w o2 p2) (hb : Below w0.heap.size w0 w) : bodyPost Tryz.prog fn (RetP w0 o0 o1 o2) Exit.ret ⟨tmps, []⟩ w :=
 bodyPost_ret (results_ccc h tmps w g0 g1 g2 _ _ _ h0 h1 h2 b0 b1 b2 (by rw [List.size_toArray, cellsO_length]) (by rw [List.size_toArray, cellsO_length]) (by rw [List.size_toArray, cellsO_length])) rfl ⟨p0, p1, p2, rfl, k0, k1, k2, hb⟩

theorem partsCons (e c r : Ob) (p : Value) (w : World) (h : Hd w (.cons (.cons e c) r) p) :
 Calls Tryz.prog 55 #[vO (.cons (.cons e c) r) p] w (RetP w e c r) := by
 obtain ⟨b, o, cp, pa, pd, rfl, hc, hA, hD⟩ := Pair.parts h
 obtain ⟨b', o', cp', pe, pc, rfl, hc', hE, hC⟩ := Pair.parts hA.2.2
 have hb : b < w.heap.size := hD.1.1
 have hb' : b' < w.heap.size := hE.1.1
 have F : Hid (∀ w, Calls Tryz.prog 54 #[vO (.cons (.cons e c) r) (.slice (some ⟨b, o, none⟩) 2 cp)] w (RetB w false)) := fun w => isFinRaw 4 ⟨#[]⟩ ⟨#[]⟩ ⟨#[]⟩ ⟨#[]⟩ ⟨#[]⟩ _ w
 have T := Bx4.new w (cellsO (.cons (.cons e c) r) (.slice (some ⟨b, o, none⟩) 2 cp)).toArray zeroC zeroC zeroC
 unfold zeroC at T
 change Calls _ _ #[.agg (cellsO (.cons (.cons e c) r) (.slice (some ⟨b, o, none⟩) 2 cp)).toArray] _ _
 unfold cellsO e0 at T ⊢
 go_enter Tryz.func55, Tryz.ntmps55
 go_wp2_with fail
 generalize (((w.alloc (.cells #[.int .i64 4, .string ⟨#[]⟩, .string ⟨#[]⟩, .string ⟨#[]⟩, .string ⟨#[]⟩, .string ⟨#[]⟩, .slice (some ⟨b, o, none⟩) 2 cp] 35)).alloc (.cells #[.int .i64 0, .string ⟨#[]⟩, .string ⟨#[]⟩, .string ⟨#[]⟩, .string ⟨#[]⟩, .string ⟨#[]⟩, .slice none 0 0] 35)).alloc (.cells #[.int .i64 0, .string ⟨#[]⟩, .string ⟨#[]⟩, .string ⟨#[]⟩, .string ⟨#[]⟩, .string ⟨#[]⟩, .slice none 0 0] 35)).alloc (.cells #[.int .i64 0, .string ⟨#[]⟩, .string ⟨#[]⟩, .string ⟨#[]⟩, .string ⟨#[]⟩, .string ⟨#[]⟩, .slice none 0 0] 35) = W at T ⊢
 obtain ⟨c0, c1, c2, c3, c4, c5, c6⟩ := T.b0.c
 have HT := hI T
 have HE := hI hE
 have HC := hI hC
 have HD := hI hD
 have HA := hI hA.last
 clear T hE hC hD hA
 go_wp2_with fail
 refine (F.out _).mono ?_
 rintro e1 w1 ⟨rfl, hb1⟩
 have hB := chain2 HT.out.bel hb1 (Nat.le_refl _)
 have HB := hI hB
 have xA := HE.out.below (B := w.heap.size) (fun b h => h) hB
 have xP := xA.2.2.hd (fun b hb => Nat.lt_of_lt_of_le hb hB.size)
 obtain ⟨x0, x1, x2, x3, x4, x5, ee', i0, i1, i2, i3, i4, i5, i6⟩ := xA.cells
 obtain ⟨x6, x7, x8, x9, x10, x11, x12, x13, x14, ee, rfl⟩ := cells_open xP
 rw [ee] at ee'
 simp only [List.cons.injEq, and_true] at ee'
 obtain ⟨rfl, rfl, rfl, rfl, rfl, rfl⟩ := ee'
 have yA := HC.out.below (B := w.heap.size) (fun b h => h) hB
 have yP := yA.2.2.hd (fun b hb => Nat.lt_of_lt_of_le hb hB.size)
 obtain ⟨y0, y1, y2, y3, y4, y5, ec', j0, j1, j2, j3, j4, j5, j6⟩ := yA.cells
 obtain ⟨y6, y7, y8, y9, y10, y11, y12, y13, y14, ec, rfl⟩ := cells_open yP
 rw [ec] at ec'
 simp only [List.cons.injEq, and_true] at ec'
 obtain ⟨rfl, rfl, rfl, rfl, rfl, rfl⟩ := ec'
 have zA := HD.out.below (B := w.heap.size) (fun b h => h) hB
 have zP := zA.2.2.hd (fun b hb => Nat.lt_of_lt_of_le hb hB.size)
 obtain ⟨z0, z1, z2, z3, z4, z5, er', k0, k1, k2, k3, k4, k5, k6⟩ := zA.cells
 obtain ⟨z6, z7, z8, z9, z10, z11, z12, z13, z14, er, rfl⟩ := cells_open zP
 rw [er] at er'
 simp only [List.cons.injEq, and_true] at er'
 obtain ⟨rfl, rfl, rfl, rfl, rfl, rfl⟩ := er'
 have l6 : w1.cell? ⟨b, o + 6, none⟩ = some (.slice (some ⟨b', o', none⟩) 2 cp') := (hB.cell (p := ⟨b, o + 6, none⟩) hb).trans HA.out
 obtain ⟨_, _, _, _, _, _, d6⟩ := (HT.out.b0.keep hb1).c
 have g1 := hI (HT.out.b1.keep hb1)
 have g2 := hI (HT.out.b2.keep hb1)
 have g3 := hI (HT.out.b3.keep hb1)
 have n1 : ¬ b = w.heap.size + 1 := by omega
 obtain ⟨⟨m0, m1, m2, m3, m4, m5, m6⟩, m7⟩ := row7 (w := w1) g1.out
 have mf0 := m7 0
 have mf1 := m7 1
 have mf2 := m7 2
 have mf3 := m7 3
 have mf4 := m7 4
 have mf5 := m7 5
 have mf6 := m7 6
 clear m7
 obtain ⟨⟨md0, md1, md2, md3, md4, md5, md6⟩, m7⟩ := row7 (w := w1.drew) g1.out
 have mfd0 := m7 0
 have mfd1 := m7 1
 have mfd2 := m7 2
 have mfd3 := m7 3
 have mfd4 := m7 4
 have mfd5 := m7 5
 have mfd6 := m7 6
 clear m7
 obtain ⟨⟨q0, q1, q2, q3, q4, q5, q6⟩, q7⟩ := row7 (w := w1) g2.out
 have qf0 := q7 0
 have qf1 := q7 1
 have qf2 := q7 2
 have qf3 := q7 3
 have qf4 := q7 4
 have qf5 := q7 5
 have qf6 := q7 6
 clear q7
 obtain ⟨⟨qd0, qd1, qd2, qd3, qd4, qd5, qd6⟩, q7⟩ := row7 (w := w1.drew) g2.out
 have qfd0 := q7 0
 have qfd1 := q7 1
 have qfd2 := q7 2
 have qfd3 := q7 3
 have qfd4 := q7 4
 have qfd5 := q7 5
 have qfd6 := q7 6
 clear q7
 obtain ⟨⟨t0, t1, t2, t3, t4, t5, t6⟩, t7⟩ := row7 (w := w1) g3.out
 have tf0 := t7 0
 have tf1 := t7 1
 have tf2 := t7 2
 have tf3 := t7 3
 have tf4 := t7 4
 have tf5 := t7 5
 have tf6 := t7 6
 clear t7
 obtain ⟨⟨td0, td1, td2, td3, td4, td5, td6⟩, t7⟩ := row7 (w := w1.drew) g3.out
 have tfd0 := t7 0
 have tfd1 := t7 1
 have tfd2 := t7 2
 have tfd3 := t7 3
 have tfd4 := t7 4
 have tfd5 := t7 5
 have tfd6 := t7 6
 clear t7
 clear hb1 hB c0 c1 c2 c3 c4 c5 c6
 go_wp2_with fail
 go_region
 go_wp2_with fail
 rw [setRow7 (show w1.heap[w.heap.size + 1]? = some _ from g1.out) rfl]
 rw [setRow7 (show (w1.setRow _ _).heap[w.heap.size + 1 + 1]? = some _ from g2.out.other (by omega)) rfl]
 rw [setRow7 (show ((w1.setRow _ _).setRow _ _).heap[w.heap.size + 1 + 1 + 1]? = some _ from (g3.out.other (by omega)).other (by omega)) rfl]
 have hX : Below w.heap.size w1 (((w1.setRow (w.heap.size + 1) #[.int .i64 x6, .string x7, .string x8, .string x9, .string x10, .string x11, .slice x12 x13 x14]).setRow (w.heap.size + 1 + 1) #[.int .i64 y6, .string y7, .string y8, .string y9, .string y10, .string y11, .slice y12 y13 y14]).setRow (w.heap.size + 1 + 1 + 1) #[.int .i64 z6, .string z7, .string z8, .string z9, .string z10, .string z11, .slice z12 z13 z14]) :=
  below_setRowO (below_setRowO (below_setRowO (Below.refl _ _) (by omega) _) (by omega) _) (by omega) _
 have hY := hI (HB.out.trans hX)
 clear hX
 exact retP (o0 := e) (o1 := c) (o2 := r) rfl rfl rfl rfl (g0 := w.heap.size + 1) (g1 := w.heap.size + 1 + 1) (g2 := w.heap.size + 1 + 1 + 1)
  (p0 := .slice x12 x13 x14) (p1 := .slice y12 y13 y14) (p2 := .slice z12 z13 z14)
  (by rw [ee]; exact (g1.out.set.other (by omega)).other (by omega)) (by rw [ec]; exact ((g2.out.other (by omega)).set).other (by omega)) (by rw [er]; exact ((g3.out.other (by omega)).other (by omega)).set)
  (HE.out.2.2.hd (In.has w) |>.below hY.out.drew) (HC.out.2.2.hd (In.has w) |>.below hY.out.drew) (HD.out.2.2.hd (In.has w) |>.below hY.out.drew) hY.out.drew
theorem Sd.cnt_mem : ∀ {l : List Sd} {r : Sd}, r ∈ l → r.cnt ≤ Sd.cnts l
 | x :: xs, r, h => by
  unfold Sd.cnts
  rcases List.mem_cons.1 h with e | e
  · rw [e]; omega
  · have := Sd.cnt_mem e; omega
theorem smallL_drop {l : List Sd} {i : Nat} (hi : i < l.length) (q : Int) : smallL (l.drop i) q = match smallV l[i] q with
 | some k => if k < 0 then none else smallL (l.drop (i + 1)) k
 | none => none := by
 rw [List.drop_eq_getElem_cons hi]
 conv => lhs; unfold smallL
 cases smallV l[i] q <;> rfl
def RetSm (w : World) (m : Option Int) (e : Ending) (w' : World) : Prop := ∃ x, e = .returned (.tuple #[.int .i64 x, .bool m.isSome]) ∧ (∀ k, m = some k → x = k) ∧ Below w.heap.size w w'
def SmW (W wr : World) (l : List Sd) (i : Nat) (q : Int) (r : Option Int) : Prop := smallL (l.drop i) q = r ∧ Below W.heap.size W wr

theorem smallCore (n : Int) (l : List Sd) (A : Option Addr) (c : Nat) (m : Int) (w : World) (S : Nat → Prop) (hS : In S w) (hc : l.length ≤ c) (hm : ((1 + Sd.cnts l : Nat) : Int) - 2000000 ≤ m) (hm' : m ≤ 1000) (hcn : 1 + Sd.cnts l ≤ 1048576)
 (hA : 0 < l.length → ∃ b o, A = some ⟨b, o, none⟩ ∧ S b ∧ SdsAt w S b o l)
 (ih : ∀ r ∈ l, ∀ (cs : List Value) (m : Int) (w : World), In S w → SdAt w S r cs → (r.cnt : Int) - 2000000 ≤ m → m ≤ 1000 → Calls Tryz.prog 17 #[.agg cs.toArray, .int .i64 m] w (RetSm w (smallV r m))) :
 Calls Tryz.prog 17 #[.agg #[.int .i64 n, .slice A l.length c], .int .i64 m] w (RetSm w (smallV (.mk n l) m)) := by
 have HI := hI ih
 clear ih
 have HA := hI hA
 clear hA
 have HCM : Hid (∀ i (hi : i < l.length), l[i].cnt ≤ Sd.cnts l) := fun i hi => Sd.cnt_mem (List.getElem_mem hi)
 obtain ⟨L, hL⟩ : ∃ L, l.length = L := ⟨_, rfl⟩
 rw [hL] at hc HA ⊢
 have HL := hI hL
 generalize Sd.cnts l = C at hm hcn HCM
 by_cases h2 : 3 < L
 · have hr : smallV (.mk n l) m = none := by unfold smallV; rw [hL, if_pos h2]
   rw [hr]
   clear hr hL
   have hb0 : Below w.heap.size w (w.alloc (.cells #[.int .i64 n, .slice A L c] 24)) := Below.alloc (Below.refl _ _) (Nat.le_refl _) _
   go_enter Tryz.func17, Tryz.ntmps17
   go_wp2_with fail
   all_goals go_ret2
   all_goals exact ⟨_, rfl, fun k hk => (by cases hk), hb0⟩
 · have h2 : L ≤ 3 := by omega
   have hr : smallV (.mk n l) m = smallL l (m - 1) := by unfold smallV; rw [hL, if_neg (by omega)]
   rw [hr]
   clear hr hL
   go_enter Tryz.func17, Tryz.ntmps17
   go_wp2_with fail
   have c3 := hI (show (w.alloc (.cells #[.int .i64 n, .slice A L c] 24)).cell? ⟨w.heap.size, 1, none⟩ = some (.slice A L c) from by
    rw [cell_of_row _ _ _ _ _ _ (heap_alloc_new w _)]; rfl)
   have hW : Below w.heap.size w (w.alloc (.cells #[.int .i64 n, .slice A L c] 24)) := Below.alloc (Below.refl _ _) (Nat.le_refl _) _
   have hSz : (w.alloc (.cells #[.int .i64 n, .slice A L c] 24)).heap.size = w.heap.size + 1 := by simp
   generalize w.alloc (.cells #[.int .i64 n, .slice A L c] 24) = W at c3 hW hSz ⊢
   have hS1 : w.heap.size + 1 ≤ W.heap.size := by omega
   clear hSz
   have hm0 : -2000000 ≤ m - 1 := by omega
   go_loopw [1, 6] (fun u v wr => ∃ (i : Nat) (q : Int), i ≤ L ∧ v = .int .i64 i ∧ u = .int .i64 q ∧ -2000000 ≤ q ∧ q ≤ 1000 ∧ (C : Int) - 2000000 ≤ q ∧ Hid (SmW W wr l i q (smallL l (m - 1)))) (fun _ v _ => L - (intOf v).toNat)
   case atStart => exact ⟨0, m - 1, Nat.zero_le _, rfl, rfl, by omega, by omega, by omega, ⟨rfl, Below.refl _ _⟩⟩
   case round =>
    obtain ⟨i, q, hi, rfl, rfl, hq, hq', hqC, hE⟩ := hrel
    obtain ⟨wo, rfl⟩ : ∃ wo : World, wo = wr := ⟨_, rfl⟩
    obtain ⟨hv, hb1⟩ := hE.out
    clear hE
    have HV := hI hv
    clear hv
    have d3 : wo.cell? ⟨w.heap.size, 1, none⟩ = some (.slice A L c) := (hb1.cell (p := ⟨w.heap.size, 1, none⟩) (by show w.heap.size < _; omega)).trans c3.out
    have hbw : Below w.heap.size w wo := hW.trans (hb1.mono hW.size)
    by_cases hiL : i < L
    · obtain ⟨b, o, rfl, hb, hrs⟩ := HA.out (by omega)
      have hil : i < l.length := by rw [HL.out]; exact hiL
      obtain ⟨cs, hcs, hcell⟩ := hrs.get hil
      have hcs' := hcs.below hS hbw
      have ha0 : b < w.heap.size := hS b hb
      have step := smallL_drop hil q
      have hci := HCM.out i hil
      obtain ⟨z0, z1, rfl⟩ : ∃ z0 z1, cs = [z0, z1] := by
       generalize l[i] = r at hcs
       cases r with
       | mk n l => unfold SdAt at hcs; obtain ⟨A, c, e, _⟩ := hcs; exact ⟨_, _, e⟩
      have l0 := (hbw.cell (p := ⟨b, o + i * 2 + 0, none⟩) ha0).trans (hcell 0 z0 rfl)
      have l1 := (hbw.cell (p := ⟨b, o + i * 2 + 1, none⟩) ha0).trans (hcell 1 z1 rfl)
      rw [Nat.add_zero] at l0
      have call := hI (HI.out l[i] (List.getElem_mem hil) [z0, z1] q wo (hS.later hbw.size) hcs' (by omega) hq')
      have ok := smallV_ok l[i] q
      clear hcell hcs hcs' hrs hci
      have ST' := hI step
      have OK := hI ok
      clear step ok
      generalize smallV l[i] q = sv at call ST' OK
      go_wp2_with fail
      refine call.out.mono ?_
      rintro e w3 ⟨x, rfl, hx, hb3⟩
      have hbe := hI (hb1.trans (hb3.mono hb1.size))
      have hbz := hI (hW.trans (hbe.out.mono hW.size))
      clear l0 l1 d3 hb1 hb3 hbw call
      cases sv with
      | none =>
       have hr : Hid (smallL l (m - 1) = none) := by show _ = _; rw [← HV.out, ST'.out]
       clear hx OK ST'
       go_wp2
       go_ret2
       exact ⟨_, (by rw [hr.out]; rfl), fun k hk => (by rw [hr.out] at hk; cases hk), hbz.out⟩
      | some k =>
       obtain rfl := hx k rfl
       obtain ⟨_, hk1, hk0⟩ := OK.out x rfl
       have hkn : ¬ x < 0 := by omega
       have hx' : x ≤ 1000 := by omega
       have hst : Hid (smallL (l.drop (i + 1)) x = smallL l (m - 1)) := by
        show _ = _
        rw [← HV.out, ST'.out]
        show _ = if x < 0 then none else _
        rw [if_neg hkn]
       clear OK ST' hx hk1
       go_wp2
       go_roundw
       case rel => exact ⟨i + 1, x, by omega, by go_num, rfl, by omega, by omega, by omega, ⟨hst.out, hbe.out⟩⟩
       case measure => simp [intOf]; omega
    · have hiL : i = L := by omega
      have hr : Hid (smallL l (m - 1) = if 0 ≤ q then some q else none) := by
       show _ = _
       rw [← HV.out, List.drop_eq_nil_of_le (by rw [HL.out]; omega)]
       unfold smallL
       rfl
      have hbx := hI hbw
      have hn : ¬ i < L := by omega
      clear hb1 hbw hiL
      by_cases hq0 : 0 ≤ q
      · have hr2 : Hid (smallL l (m - 1) = some q) := by show _ = _; rw [hr.out, if_pos hq0]
        clear hr
        go_wp2
        go_ret2
        exact ⟨_, (by rw [hr2.out]; rfl), fun k hk => (by rw [hr2.out] at hk; injection hk), hbx.out⟩
      · have hr2 : Hid (smallL l (m - 1) = none) := by show _ = _; rw [hr.out, if_neg hq0]
        clear hr
        go_wp2
        go_ret2
        exact ⟨_, (by rw [hr2.out]; rfl), fun k hk => (by rw [hr2.out] at hk; cases hk), hbx.out⟩
theorem smallO : ∀ (r : Sd) (cs : List Value) (m : Int) (w : World) (S : Nat → Prop), r.cnt ≤ 1048576 → In S w → SdAt w S r cs → (r.cnt : Int) - 2000000 ≤ m → m ≤ 1000 →
 Calls Tryz.prog 17 #[.agg cs.toArray, .int .i64 m] w (RetSm w (smallV r m)) := by
 intro r
 induction r using Sd.ind with
 | h n l ih =>
  intro cs m w S hcn hS h hm hm'
  have hcnt : (Sd.mk n l).cnt = 1 + Sd.cnts l := by unfold Sd.cnt; rfl
  rw [hcnt] at hcn hm
  unfold SdAt at h
  obtain ⟨A, c, rfl, hn, hc, hc', hA⟩ := h
  exact smallCore n l A c m w S hS hc hm hm' hcn hA (fun r hr cs m w hS h hm hm' => ih r hr cs m w S (by have := Sd.cnt_mem hr; omega) hS h hm hm')
theorem hd_num (w : World) (q : Rat) : Hd w (.num q) (.slice none 0 0) := rfl
def Ob.isNum : Ob → Bool
 | .num _ => true
 | _ => false
theorem isFinH (o : Ob) (p : Value) (w : World) (b : Bool) (h : o.isNum = b) : Calls Tryz.prog 54 #[vO o p] w (RetB w b) := by
 subst h
 cases o with
 | num q => exact isFinRaw 1 _ _ _ _ _ p w
 | str s => exact isFinRaw 3 _ _ _ _ _ p w
 | sym x y => exact isFinRaw 2 _ _ _ _ _ p w
 | cons a d => exact isFinRaw 4 _ _ _ _ _ p w
theorem nt_lit (q : Rat) (n : Int) (l : List UInt8) (hl : text n = l) : ((nt q).toList == l) = decide (q.num = n) := by
 have h := beq_BA (text q.num) (text n)
 rw [BA_toList (text n)] at h
 unfold nt
 rw [← hl, h]
 by_cases e : q.num = n
 · rw [e]; simp
 · rw [decide_eq_false e, decide_eq_false]
   intro e2
   apply e
   have := congrArg val e2
   rwa [val_text, val_text] at this
def Ob.numIs (n : Int) : Ob → Bool
 | .num q => decide (q.num = n)
 | _ => false
theorem isZeroH (o : Ob) (p : Value) (w : World) (b : Bool) (h : o.numIs 0 = b) : Calls Tryz.prog 57 #[vO o p] w (RetB w b) := by
 subst h
 cases o with
 | num q =>
  have := isZeroRaw 1 (nt q) (dt q) ⟨#[]⟩ ⟨#[]⟩ ⟨#[]⟩ p w
  rw [nt_lit q 0 [48] (by decide)] at this
  exact this
 | str s => exact isZeroRaw 3 _ _ _ _ _ p w
 | sym x y => exact isZeroRaw 2 _ _ _ _ _ p w
 | cons a d => exact isZeroRaw 4 _ _ _ _ _ p w
theorem isOneH (o : Ob) (p : Value) (w : World) (b : Bool) (h : o.numIs 1 = b) : Calls Tryz.prog 56 #[vO o p] w (RetB w b) := by
 subst h
 cases o with
 | num q =>
  have := isOneRaw 1 (nt q) (dt q) ⟨#[]⟩ ⟨#[]⟩ ⟨#[]⟩ p w
  rw [nt_lit q 1 [49] (by decide)] at this
  exact this
 | str s => exact isOneRaw 3 _ _ _ _ _ p w
 | sym x y => exact isOneRaw 2 _ _ _ _ _ p w
 | cons a d => exact isOneRaw 4 _ _ _ _ _ p w
theorem On.numIs (a : On) (n : Nat) : a.ob.numIs n = decide (a = .fin n) := by
 cases a with
 | fin m =>
  show decide ((m : Rat).num = (n : Int)) = _
  rw [Rat.num_natCast]
  by_cases h : m = n
  · subst h; simp
  · rw [decide_eq_false (by omega), decide_eq_false (fun e => h (by injection e))]
 | pw e c r => rw [decide_eq_false (fun e => by cases e)]; rfl
theorem cmpNum (q : Rat) (hb : Bd 90 q) (s : ByteArray) (n : Int) (hs : val (LA s) = n) (hz : s.size ≤ 100) (w : World) : Calls Tryz.prog 70 #[.string (nt q), .string s] w fun e w' => e = .returned (.int .i64 (ordI q.num n)) ∧ w = w' := by
 have h := compare_any (nt q) s w (by have := bd_nt hb; omega) (by omega)
 rw [val_nt, hs] at h
 exact h
theorem int0H (w : World) (ht : Tab w) : Calls Tryz.prog 41 #[.int .i64 0] w (RetH w (.num ((0 : Int) : Rat))) := (intP 0 w (Has w) (i64_small (by omega)) ht).mono fun _ _ h => h.h (In.has w)
theorem int0RH (w : World) (ht : Tab w) : Calls Tryz.prog 20 #[.int .i64 0] w (RetH w (.num ((0 : Int) : Rat))) := (intO 0 w (Has w) (In.has w) (i64_small (by omega)) ht).mono fun _ _ h => h.h (In.has w)
theorem partsFin (q : Rat) (p : Value) (w : World) (h : Hd w (.num q) p) (ht : Tab w) :
 Calls Tryz.prog 55 #[vO (.num q) p] w (RetP w (.num ((0 : Int) : Rat)) (.num q) (.num ((0 : Int) : Rat))) := by
 obtain ⟨z, hz⟩ : ∃ z, ((0 : Int) : Rat) = z := ⟨_, rfl⟩
 rw [hz]
 have F : Hid (∀ w, Calls Tryz.prog 54 #[vO (.num q) p] w (RetB w true)) := fun w => isFinH _ p w true rfl
 obtain ⟨x0, x1, x2, x3, x4, x5, ex⟩ := cells7 (.num q) p
 have T := Bx4.new w #[x0, x1, x2, x3, x4, x5, p] #[.int .i64 0, .string ⟨#[]⟩, .string ⟨#[]⟩, .string ⟨#[]⟩, .string ⟨#[]⟩, .string ⟨#[]⟩, .slice none 0 0] #[.int .i64 0, .string ⟨#[]⟩, .string ⟨#[]⟩, .string ⟨#[]⟩, .string ⟨#[]⟩, .string ⟨#[]⟩, .slice none 0 0] #[.int .i64 0, .string ⟨#[]⟩, .string ⟨#[]⟩, .string ⟨#[]⟩, .string ⟨#[]⟩, .string ⟨#[]⟩, .slice none 0 0]
 rw [vO_cells ex]
 go_enter Tryz.func55, Tryz.ntmps55
 go_wp2_with fail
 generalize (((w.alloc (.cells #[x0, x1, x2, x3, x4, x5, p] 35)).alloc (.cells #[.int .i64 0, .string ⟨#[]⟩, .string ⟨#[]⟩, .string ⟨#[]⟩, .string ⟨#[]⟩, .string ⟨#[]⟩, .slice none 0 0] 35)).alloc (.cells #[.int .i64 0, .string ⟨#[]⟩, .string ⟨#[]⟩, .string ⟨#[]⟩, .string ⟨#[]⟩, .string ⟨#[]⟩, .slice none 0 0] 35)).alloc (.cells #[.int .i64 0, .string ⟨#[]⟩, .string ⟨#[]⟩, .string ⟨#[]⟩, .string ⟨#[]⟩, .string ⟨#[]⟩, .slice none 0 0] 35) = W at T ⊢
 have B0 : Hid (Bx W w.heap.size (cellsO (.num q) p).toArray) := by rw [ex]; exact T.b0
 have B1 := hI T.b1
 have B2 := hI T.b2
 have B3 := hI T.b3
 have HW := hI T.bel
 have K := hI (h.below T.bel)
 have HT := hI (ht.below T.bel)
 rw [← vO_cells ex]
 clear T h ex
 go_wp2_with (refine loadB (.tmp 1) rfl rfl rfl B0.out ?_)
 refine (F.out _).mono ?_
 rintro e w1 ⟨rfl, hb⟩
 replace B0 := kB B0 hb
 replace B1 := kB B1 hb
 replace B2 := kB B2 hb
 replace B3 := kB B3 hb
 replace K := kH K hb
 replace HT := kT HT hb
 replace HW := kW HW hb
 clear hb
 have e1 : p = .slice none 0 0 := K.out.flat rfl
 subst e1
 have N0 : Hid (∀ X, Below w.heap.size w X → Calls Tryz.prog 41 #[.int .i64 0] X (RetN X z)) := fun X h => by rw [← hz]; exact (intP 0 X (Has X) (i64_small (by omega)) (ht.below h)).mono fun _ _ h => h.num
 clear HT ht hz
 unfold cellsO e0 at B0
 have hB0 : Below w1.heap.size w1 w1.drew := (Below.refl _ _).drew
 obtain ⟨⟨a0, a1, a2, a3, a4, a5, a6⟩, af⟩ := row7 (B0.out.keep (Below.refl _ _))
 obtain ⟨⟨b0, b1, b2, b3, b4, b5, b6⟩, bf⟩ := row7 (B1.out.keep (Below.refl _ _))
 obtain ⟨⟨c0, c1, c2, c3, c4, c5, c6⟩, cf⟩ := row7 (B2.out.keep (Below.refl _ _))
 obtain ⟨⟨d0, d1, d2, d3, d4, d5, d6⟩, df⟩ := row7 (B3.out.keep (Below.refl _ _))

 go_wp2_with fail
 go_region_with (go_at_call 41; refine (N0.out _ (HW.out.trans (‹Below w1.heap.size w1 _›.mono HW.out.size))).mono ?_; rintro e w3 ⟨rfl, hb3⟩; have hB3 := chain2 ‹Below w1.heap.size w1 _› hb3 (Nat.le_refl _); clear hb3; obtain ⟨⟨a0, a1, a2, a3, a4, a5, a6⟩, af⟩ := row7 (B0.out.keep hB3); obtain ⟨⟨b0, b1, b2, b3, b4, b5, b6⟩, bf⟩ := row7 (B1.out.keep hB3); obtain ⟨⟨c0, c1, c2, c3, c4, c5, c6⟩, cf⟩ := row7 (B2.out.keep hB3); obtain ⟨⟨d0, d1, d2, d3, d4, d5, d6⟩, df⟩ := row7 (B3.out.keep hB3); unfold vQ)
 all_goals
  have m1 := B1.out.keep hB3
  have m2 := B2.out.keep hB3
  have m3 := B3.out.keep hB3
  go_wp2_with fail
  rw [setRow7 (show w3.heap[w.heap.size + 1]? = some _ from m1) rfl]
  rw [setRow7 (show (w3.setRow _ _).heap[w.heap.size + 1 + 1]? = some _ from m2.other (by omega)) rfl]
  rw [setRow7 (show ((w3.setRow _ _).setRow _ _).heap[w.heap.size + 1 + 1 + 1]? = some _ from (m3.other (by omega)).other (by omega)) rfl]
  have hX : Below w.heap.size w (((w3.setRow (w.heap.size + 1) (cellsO (.num z) (.slice none 0 0)).toArray).setRow (w.heap.size + 1 + 1) (cellsO (.num q) (.slice none 0 0)).toArray).setRow (w.heap.size + 1 + 1 + 1) (cellsO (.num z) (.slice none 0 0)).toArray) :=
   below_setRowO (below_setRowO (below_setRowO (HW.out.trans (hB3.mono HW.out.size)) (by omega) _) (by omega) _) (by omega) _
  have hY := hI hX
  clear hX
  exact retP (o0 := .num z) (o1 := .num q) (o2 := .num z) rfl rfl rfl rfl (g0 := w.heap.size + 1) (g1 := w.heap.size + 1 + 1) (g2 := w.heap.size + 1 + 1 + 1)
   (p0 := .slice none 0 0) (p1 := .slice none 0 0) (p2 := .slice none 0 0)
   (by exact (m1.set.other (by omega)).other (by omega)) (by exact ((m2.other (by omega)).set).other (by omega)) (by exact ((m3.other (by omega)).other (by omega)).set)
   (hd_num _ _) (hd_num _ _) (hd_num _ _) (by first | exact hY.out | exact hY.out.drew | exact hY.out.drew.drew)
theorem compareNN (x y : Rat) (p p' : Value) (w : World) (hx : Bd 90 x) (hy : Bd 90 y) (hp : Hd w (.num x) p) (hp' : Hd w (.num y) p') :
 Calls Tryz.prog 46 #[vO (.num x) p, vO (.num y) p'] w (RetI w (ordI x.num y.num)) := by
 obtain ⟨a0, a1, a2, a3, a4, a5, ea⟩ := cells7 (.num x) p
 obtain ⟨b0, b1, b2, b3, b4, b5, eb⟩ := cells7 (.num y) p'
 have T := Bx2.new w #[a0, a1, a2, a3, a4, a5, p] #[b0, b1, b2, b3, b4, b5, p']
 rw [vO_cells ea, vO_cells eb]
 go_enter Tryz.func46, Tryz.ntmps46
 go_wp2_with fail
 generalize (w.alloc (.cells #[a0, a1, a2, a3, a4, a5, p] 35)).alloc (.cells #[b0, b1, b2, b3, b4, b5, p'] 35) = W at T ⊢
 have B0 : Hid (Bx W (w.heap.size) (cellsO (.num x) p).toArray) := by rw [ea]; exact T.b0
 have K0 := hI (hp.below T.bel)
 have B1 : Hid (Bx W (w.heap.size + 1) (cellsO (.num y) p').toArray) := by rw [eb]; exact T.b1
 have K1 := hI (hp'.below T.bel)
 have HW := hI T.bel
 try rw [← vO_cells ea]
 try rw [← vO_cells eb]
 clear T ea eb hp hp'
 have c0 := hI (fun X => compare_any (nt x) (nt y) X (by have := bd_nt hx; omega) (by have := bd_nt hy; omega))
 go_wp2_with (first | (with_reducible refine lG (.tmp 2) B0.out ?_) | (with_reducible refine lG (.tmp 3) B1.out ?_))
 with_reducible refine (isFinH (.num x) p _ true rfl).mono ?_
 rintro e w1 ⟨rfl, hb⟩
 replace B0 := kB B0 hb
 replace K0 := kH K0 hb
 replace B1 := kB B1 hb
 replace K1 := kH K1 hb
 replace HW := kW HW hb
 clear hb
 go_wp2_with (first | (with_reducible refine lG (.tmp 2) B0.out ?_) | (with_reducible refine lG (.tmp 3) B1.out ?_))
 with_reducible refine (isFinH (.num y) p' _ true rfl).mono ?_
 rintro e w2 ⟨rfl, hb⟩
 replace B0 := kB B0 hb
 replace K0 := kH K0 hb
 replace B1 := kB B1 hb
 replace K1 := kH K1 hb
 replace HW := kW HW hb
 clear hb
 obtain ⟨_, m1, _⟩ := Bx.c B0.out
 obtain ⟨_, n1, _⟩ := Bx.c B1.out
 go_wp2_with (first | (with_reducible refine lG (.tmp 2) B0.out ?_) | (with_reducible refine lG (.tmp 3) B1.out ?_))
 refine (c0.out _).mono ?_
 rintro e w9 ⟨rfl, rfl⟩
 rw [val_nt, val_nt]
 go_wp2_with (first | (with_reducible refine lG (.tmp 2) B0.out ?_) | (with_reducible refine lG (.tmp 3) B1.out ?_))
 go_ret
 exact ⟨rfl, HW.out⟩
theorem compareNC (x : Rat) (a d : Ob) (p p' : Value) (w : World) (hp : Hd w (.num x) p) (hp' : Hd w (.cons a d) p') :
 Calls Tryz.prog 46 #[vO (.num x) p, vO (.cons a d) p'] w (RetI w (-1)) := by
 obtain ⟨a0, a1, a2, a3, a4, a5, ea⟩ := cells7 (.num x) p
 obtain ⟨b0, b1, b2, b3, b4, b5, eb⟩ := cells7 (.cons a d) p'
 have T := Bx2.new w #[a0, a1, a2, a3, a4, a5, p] #[b0, b1, b2, b3, b4, b5, p']
 rw [vO_cells ea, vO_cells eb]
 go_enter Tryz.func46, Tryz.ntmps46
 go_wp2_with fail
 generalize (w.alloc (.cells #[a0, a1, a2, a3, a4, a5, p] 35)).alloc (.cells #[b0, b1, b2, b3, b4, b5, p'] 35) = W at T ⊢
 have B0 : Hid (Bx W (w.heap.size) (cellsO (.num x) p).toArray) := by rw [ea]; exact T.b0
 have K0 := hI (hp.below T.bel)
 have B1 : Hid (Bx W (w.heap.size + 1) (cellsO (.cons a d) p').toArray) := by rw [eb]; exact T.b1
 have K1 := hI (hp'.below T.bel)
 have HW := hI T.bel
 try rw [← vO_cells ea]
 try rw [← vO_cells eb]
 clear T ea eb hp hp'
 go_wp2_with (first | (with_reducible refine lG (.tmp 2) B0.out ?_) | (with_reducible refine lG (.tmp 3) B1.out ?_))
 with_reducible refine (isFinH (.num x) p _ true rfl).mono ?_
 rintro e w1 ⟨rfl, hb⟩
 replace B0 := kB B0 hb
 replace K0 := kH K0 hb
 replace B1 := kB B1 hb
 replace K1 := kH K1 hb
 replace HW := kW HW hb
 clear hb
 go_wp2_with (first | (with_reducible refine lG (.tmp 2) B0.out ?_) | (with_reducible refine lG (.tmp 3) B1.out ?_))
 with_reducible refine (isFinH (.cons a d) p' _ false rfl).mono ?_
 rintro e w2 ⟨rfl, hb⟩
 replace B0 := kB B0 hb
 replace K0 := kH K0 hb
 replace B1 := kB B1 hb
 replace K1 := kH K1 hb
 replace HW := kW HW hb
 clear hb
 go_wp2_with (first | (with_reducible refine lG (.tmp 2) B0.out ?_) | (with_reducible refine lG (.tmp 3) B1.out ?_))
 with_reducible refine (isFinH (.num x) p _ true rfl).mono ?_
 rintro e w3 ⟨rfl, hb⟩
 replace B0 := kB B0 hb
 replace K0 := kH K0 hb
 replace B1 := kB B1 hb
 replace K1 := kH K1 hb
 replace HW := kW HW hb
 clear hb
 go_wp2_with (first | (with_reducible refine lG (.tmp 2) B0.out ?_) | (with_reducible refine lG (.tmp 3) B1.out ?_))
 go_ret
 exact ⟨rfl, HW.out⟩
theorem compareCN (x : Rat) (a d : Ob) (p p' : Value) (w : World) (hp : Hd w (.cons a d) p) (hp' : Hd w (.num x) p') :
 Calls Tryz.prog 46 #[vO (.cons a d) p, vO (.num x) p'] w (RetI w 1) := by
 obtain ⟨a0, a1, a2, a3, a4, a5, ea⟩ := cells7 (.cons a d) p
 obtain ⟨b0, b1, b2, b3, b4, b5, eb⟩ := cells7 (.num x) p'
 have T := Bx2.new w #[a0, a1, a2, a3, a4, a5, p] #[b0, b1, b2, b3, b4, b5, p']
 rw [vO_cells ea, vO_cells eb]
 go_enter Tryz.func46, Tryz.ntmps46
 go_wp2_with fail
 generalize (w.alloc (.cells #[a0, a1, a2, a3, a4, a5, p] 35)).alloc (.cells #[b0, b1, b2, b3, b4, b5, p'] 35) = W at T ⊢
 have B0 : Hid (Bx W (w.heap.size) (cellsO (.cons a d) p).toArray) := by rw [ea]; exact T.b0
 have K0 := hI (hp.below T.bel)
 have B1 : Hid (Bx W (w.heap.size + 1) (cellsO (.num x) p').toArray) := by rw [eb]; exact T.b1
 have K1 := hI (hp'.below T.bel)
 have HW := hI T.bel
 try rw [← vO_cells ea]
 try rw [← vO_cells eb]
 clear T ea eb hp hp'
 go_wp2_with (first | (with_reducible refine lG (.tmp 2) B0.out ?_) | (with_reducible refine lG (.tmp 3) B1.out ?_))
 with_reducible refine (isFinH (.cons a d) p _ false rfl).mono ?_
 rintro e w1 ⟨rfl, hb⟩
 replace B0 := kB B0 hb
 replace K0 := kH K0 hb
 replace B1 := kB B1 hb
 replace K1 := kH K1 hb
 replace HW := kW HW hb
 clear hb
 go_wp2_with (first | (with_reducible refine lG (.tmp 2) B0.out ?_) | (with_reducible refine lG (.tmp 3) B1.out ?_))
 with_reducible refine (isFinH (.cons a d) p _ false rfl).mono ?_
 rintro e w2 ⟨rfl, hb⟩
 replace B0 := kB B0 hb
 replace K0 := kH K0 hb
 replace B1 := kB B1 hb
 replace K1 := kH K1 hb
 replace HW := kW HW hb
 clear hb
 go_wp2_with (first | (with_reducible refine lG (.tmp 2) B0.out ?_) | (with_reducible refine lG (.tmp 3) B1.out ?_))
 with_reducible refine (isFinH (.num x) p' _ true rfl).mono ?_
 rintro e w3 ⟨rfl, hb⟩
 replace B0 := kB B0 hb
 replace K0 := kH K0 hb
 replace B1 := kB B1 hb
 replace K1 := kH K1 hb
 replace HW := kW HW hb
 clear hb
 go_wp2_with (first | (with_reducible refine lG (.tmp 2) B0.out ?_) | (with_reducible refine lG (.tmp 3) B1.out ?_))
 go_ret
 exact ⟨rfl, HW.out⟩
theorem compareCC (e c r e' c' r' : Ob) (p p' : Value) (w : World) (x0 x1 x2 : Int) (hp : Hd w (.cons (.cons e c) r) p) (hp' : Hd w (.cons (.cons e' c') r') p') (ht : Tab w)
 (i0 : ∀ X q t, Hd X e q → Hd X e' t → Tab X → Calls Tryz.prog 46 #[vO e q, vO e' t] X (RetI X x0))
 (i1 : ∀ X q t, Hd X c q → Hd X c' t → Tab X → Calls Tryz.prog 46 #[vO c q, vO c' t] X (RetI X x1))
 (i2 : ∀ X q t, Hd X r q → Hd X r' t → Tab X → Calls Tryz.prog 46 #[vO r q, vO r' t] X (RetI X x2)) :
 Calls Tryz.prog 46 #[vO (.cons (.cons e c) r) p, vO (.cons (.cons e' c') r') p'] w (RetI w (next x0 (next x1 x2))) := by
 have I0 := hI i0
 have I1 := hI i1
 have I2 := hI i2
 clear i0 i1 i2
 obtain ⟨a0, a1, a2, a3, a4, a5, ea⟩ := cells7 (.cons (.cons e c) r) p
 obtain ⟨b0, b1, b2, b3, b4, b5, eb⟩ := cells7 (.cons (.cons e' c') r') p'
 have T := Bx2.new w #[a0, a1, a2, a3, a4, a5, p] #[b0, b1, b2, b3, b4, b5, p']
 rw [vO_cells ea, vO_cells eb]
 go_enter Tryz.func46, Tryz.ntmps46
 go_wp2_with fail
 generalize (w.alloc (.cells #[a0, a1, a2, a3, a4, a5, p] 35)).alloc (.cells #[b0, b1, b2, b3, b4, b5, p'] 35) = W at T ⊢
 have B0 : Hid (Bx W (w.heap.size) (cellsO (.cons (.cons e c) r) p).toArray) := by rw [ea]; exact T.b0
 have K0 := hI (hp.below T.bel)
 have B1 : Hid (Bx W (w.heap.size + 1) (cellsO (.cons (.cons e' c') r') p').toArray) := by rw [eb]; exact T.b1
 have K1 := hI (hp'.below T.bel)
 have HW := hI T.bel
 have HT := hI (ht.below T.bel)
 try rw [← vO_cells ea]
 try rw [← vO_cells eb]
 clear T ea eb hp hp' ht
 go_wp2_with (first | (with_reducible refine lG (.tmp 2) B0.out ?_) | (with_reducible refine lG (.tmp 3) B1.out ?_))
 with_reducible refine (isFinH (.cons (.cons e c) r) p _ false rfl).mono ?_
 rintro e w1 ⟨rfl, hb⟩
 replace B0 := kB B0 hb
 replace K0 := kH K0 hb
 replace B1 := kB B1 hb
 replace K1 := kH K1 hb
 replace HW := kW HW hb
 replace HT := kT HT hb
 clear hb
 go_wp2_with (first | (with_reducible refine lG (.tmp 2) B0.out ?_) | (with_reducible refine lG (.tmp 3) B1.out ?_))
 with_reducible refine (isFinH (.cons (.cons e c) r) p _ false rfl).mono ?_
 rintro e w2 ⟨rfl, hb⟩
 replace B0 := kB B0 hb
 replace K0 := kH K0 hb
 replace B1 := kB B1 hb
 replace K1 := kH K1 hb
 replace HW := kW HW hb
 replace HT := kT HT hb
 clear hb
 go_wp2_with (first | (with_reducible refine lG (.tmp 2) B0.out ?_) | (with_reducible refine lG (.tmp 3) B1.out ?_))
 with_reducible refine (isFinH (.cons (.cons e' c') r') p' _ false rfl).mono ?_
 rintro e w3 ⟨rfl, hb⟩
 replace B0 := kB B0 hb
 replace K0 := kH K0 hb
 replace B1 := kB B1 hb
 replace K1 := kH K1 hb
 replace HW := kW HW hb
 replace HT := kT HT hb
 clear hb
 go_wp2_with (first | (with_reducible refine lG (.tmp 2) B0.out ?_) | (with_reducible refine lG (.tmp 3) B1.out ?_))
 with_reducible refine (partsCons e c r p _ K0.out).mono ?_
 rintro e w4 ⟨q0, q1, q2, rfl, k0, k1, k2, hb⟩
 replace B0 := kB B0 hb
 replace K0 := kH K0 hb
 replace B1 := kB B1 hb
 replace K1 := kH K1 hb
 replace HW := kW HW hb
 replace HT := kT HT hb
 clear hb
 replace k0 := hI k0
 replace k1 := hI k1
 replace k2 := hI k2
 have T := hI (Bx3.new w4 #[.int .i64 0, .string ⟨#[]⟩, .string ⟨#[]⟩, .string ⟨#[]⟩, .string ⟨#[]⟩, .string ⟨#[]⟩, .slice none 0 0] #[.int .i64 0, .string ⟨#[]⟩, .string ⟨#[]⟩, .string ⟨#[]⟩, .string ⟨#[]⟩, .string ⟨#[]⟩, .slice none 0 0] #[.int .i64 0, .string ⟨#[]⟩, .string ⟨#[]⟩, .string ⟨#[]⟩, .string ⟨#[]⟩, .string ⟨#[]⟩, .slice none 0 0])
 try unfold zeroC at T
 go_wp2_with (first | (with_reducible refine sB (.tmp 5) (.tmp 34) k0.out T.out.b0 ?_) | (with_reducible refine sB (.tmp 6) (.tmp 35) k1.out T.out.n1 ?_) | (with_reducible refine sB (.tmp 7) (.tmp 36) k2.out T.out.n2 ?_; have P := Pt3.new (w := w4) (o0 := e) (o1 := c) (o2 := r) (p0 := q0) (p1 := q1) (p2 := q2) (z0 := #[.int .i64 0, .string ⟨#[]⟩, .string ⟨#[]⟩, .string ⟨#[]⟩, .string ⟨#[]⟩, .string ⟨#[]⟩, .slice none 0 0]) (z1 := #[.int .i64 0, .string ⟨#[]⟩, .string ⟨#[]⟩, .string ⟨#[]⟩, .string ⟨#[]⟩, .string ⟨#[]⟩, .slice none 0 0]) (z2 := #[.int .i64 0, .string ⟨#[]⟩, .string ⟨#[]⟩, .string ⟨#[]⟩, .string ⟨#[]⟩, .string ⟨#[]⟩, .slice none 0 0]); generalize World.setRow (World.setRow (World.setRow (((w4.alloc (.cells #[.int .i64 0, .string ⟨#[]⟩, .string ⟨#[]⟩, .string ⟨#[]⟩, .string ⟨#[]⟩, .string ⟨#[]⟩, .slice none 0 0] 35)).alloc (.cells #[.int .i64 0, .string ⟨#[]⟩, .string ⟨#[]⟩, .string ⟨#[]⟩, .string ⟨#[]⟩, .string ⟨#[]⟩, .slice none 0 0] 35)).alloc (.cells #[.int .i64 0, .string ⟨#[]⟩, .string ⟨#[]⟩, .string ⟨#[]⟩, .string ⟨#[]⟩, .string ⟨#[]⟩, .slice none 0 0] 35)) (w4.heap.size) (cellsO (e) q0).toArray) (w4.heap.size + 1) (cellsO (c) q1).toArray) (w4.heap.size + 1 + 1) (cellsO (r) q2).toArray = X4 at P ⊢; have hb := P.bel; replace B0 := kB B0 hb; replace K0 := kH K0 hb; replace B1 := kB B1 hb; replace K1 := kH K1 hb; replace HW := kW HW hb; replace HT := kT HT hb; replace k0 := kH k0 hb; replace k1 := kH k1 hb; replace k2 := kH k2 hb; have D0 := hI P.b0; have D1 := hI P.b1; have D2 := hI P.b2; clear P hb T) | (with_reducible refine lG (.tmp 2) B0.out ?_) | (with_reducible refine lG (.tmp 3) B1.out ?_) | (with_reducible refine lG (.tmp 5) D0.out ?_) | (with_reducible refine lG (.tmp 6) D1.out ?_) | (with_reducible refine lG (.tmp 7) D2.out ?_))
 clear B0 K0
 with_reducible refine (partsCons e' c' r' p' _ K1.out).mono ?_
 rintro e w5 ⟨t0, t1, t2, rfl, l0, l1, l2, hb⟩
 replace B1 := kB B1 hb
 replace K1 := kH K1 hb
 replace HW := kW HW hb
 replace HT := kT HT hb
 replace k0 := kH k0 hb
 replace k1 := kH k1 hb
 replace k2 := kH k2 hb
 replace D0 := kB D0 hb
 replace D1 := kB D1 hb
 replace D2 := kB D2 hb
 clear hb
 replace l0 := hI l0
 replace l1 := hI l1
 replace l2 := hI l2
 have T := hI (Bx3.new w5 #[.int .i64 0, .string ⟨#[]⟩, .string ⟨#[]⟩, .string ⟨#[]⟩, .string ⟨#[]⟩, .string ⟨#[]⟩, .slice none 0 0] #[.int .i64 0, .string ⟨#[]⟩, .string ⟨#[]⟩, .string ⟨#[]⟩, .string ⟨#[]⟩, .string ⟨#[]⟩, .slice none 0 0] #[.int .i64 0, .string ⟨#[]⟩, .string ⟨#[]⟩, .string ⟨#[]⟩, .string ⟨#[]⟩, .string ⟨#[]⟩, .slice none 0 0])
 try unfold zeroC at T
 go_wp2_with (first | (with_reducible refine sB (.tmp 8) (.tmp 40) l0.out T.out.b0 ?_) | (with_reducible refine sB (.tmp 9) (.tmp 41) l1.out T.out.n1 ?_) | (with_reducible refine sB (.tmp 10) (.tmp 42) l2.out T.out.n2 ?_; have P := Pt3.new (w := w5) (o0 := e') (o1 := c') (o2 := r') (p0 := t0) (p1 := t1) (p2 := t2) (z0 := #[.int .i64 0, .string ⟨#[]⟩, .string ⟨#[]⟩, .string ⟨#[]⟩, .string ⟨#[]⟩, .string ⟨#[]⟩, .slice none 0 0]) (z1 := #[.int .i64 0, .string ⟨#[]⟩, .string ⟨#[]⟩, .string ⟨#[]⟩, .string ⟨#[]⟩, .string ⟨#[]⟩, .slice none 0 0]) (z2 := #[.int .i64 0, .string ⟨#[]⟩, .string ⟨#[]⟩, .string ⟨#[]⟩, .string ⟨#[]⟩, .string ⟨#[]⟩, .slice none 0 0]); generalize World.setRow (World.setRow (World.setRow (((w5.alloc (.cells #[.int .i64 0, .string ⟨#[]⟩, .string ⟨#[]⟩, .string ⟨#[]⟩, .string ⟨#[]⟩, .string ⟨#[]⟩, .slice none 0 0] 35)).alloc (.cells #[.int .i64 0, .string ⟨#[]⟩, .string ⟨#[]⟩, .string ⟨#[]⟩, .string ⟨#[]⟩, .string ⟨#[]⟩, .slice none 0 0] 35)).alloc (.cells #[.int .i64 0, .string ⟨#[]⟩, .string ⟨#[]⟩, .string ⟨#[]⟩, .string ⟨#[]⟩, .string ⟨#[]⟩, .slice none 0 0] 35)) (w5.heap.size) (cellsO (e') t0).toArray) (w5.heap.size + 1) (cellsO (c') t1).toArray) (w5.heap.size + 1 + 1) (cellsO (r') t2).toArray = X5 at P ⊢; have hb := P.bel; replace B1 := kB B1 hb; replace K1 := kH K1 hb; replace HW := kW HW hb; replace HT := kT HT hb; replace k0 := kH k0 hb; replace k1 := kH k1 hb; replace k2 := kH k2 hb; replace D0 := kB D0 hb; replace D1 := kB D1 hb; replace D2 := kB D2 hb; replace l0 := kH l0 hb; replace l1 := kH l1 hb; replace l2 := kH l2 hb; have E0 := hI P.b0; have E1 := hI P.b1; have E2 := hI P.b2; clear P hb T) | (with_reducible refine lG (.tmp 3) B1.out ?_) | (with_reducible refine lG (.tmp 5) D0.out ?_) | (with_reducible refine lG (.tmp 6) D1.out ?_) | (with_reducible refine lG (.tmp 7) D2.out ?_) | (with_reducible refine lG (.tmp 8) E0.out ?_) | (with_reducible refine lG (.tmp 9) E1.out ?_) | (with_reducible refine lG (.tmp 10) E2.out ?_))
 clear B1 K1
 with_reducible refine (I0.out _ q0 t0 k0.out l0.out HT.out).mono ?_
 rintro e w6 ⟨rfl, hb⟩
 replace HW := kW HW hb
 replace HT := kT HT hb
 replace k0 := kH k0 hb
 replace k1 := kH k1 hb
 replace k2 := kH k2 hb
 replace D0 := kB D0 hb
 replace D1 := kB D1 hb
 replace D2 := kB D2 hb
 replace l0 := kH l0 hb
 replace l1 := kH l1 hb
 replace l2 := kH l2 hb
 replace E0 := hI (E0.out.keep hb)
 replace E1 := hI (E1.out.keep hb)
 replace E2 := hI (E2.out.keep hb)
 clear hb
 clear D0 E0 k0 l0
 by_cases h0 : x0 = 0
 · have hn : (x0 != 0) = false := by rw [h0]; rfl
   have hr : Hid (next x0 (next x1 x2) = next x1 x2) := by show _ = _; unfold next; rw [if_pos h0]
   clear h0
   go_wp2_with (first | (with_reducible refine lG (.tmp 6) D1.out ?_) | (with_reducible refine lG (.tmp 7) D2.out ?_) | (with_reducible refine lG (.tmp 9) E1.out ?_) | (with_reducible refine lG (.tmp 10) E2.out ?_))
   with_reducible refine (I1.out _ q1 t1 k1.out l1.out HT.out).mono ?_
   rintro e w7 ⟨rfl, hb⟩
   replace HW := kW HW hb
   replace HT := kT HT hb
   replace k1 := kH k1 hb
   replace k2 := kH k2 hb
   replace D1 := kB D1 hb
   replace D2 := kB D2 hb
   replace l1 := kH l1 hb
   replace l2 := kH l2 hb
   replace E1 := hI (E1.out.keep hb)
   replace E2 := hI (E2.out.keep hb)
   clear hb
   clear D1 E1 k1 l1
   by_cases h1 : x1 = 0
   · have hn1 : (x1 != 0) = false := by rw [h1]; rfl
     have hr1 : Hid (x2 = next x0 (next x1 x2)) := by show _ = _; rw [hr.out]; unfold next; rw [if_pos h1]
     clear h1
     go_wp2_with (first | (with_reducible refine lG (.tmp 7) D2.out ?_) | (with_reducible refine lG (.tmp 10) E2.out ?_))
     with_reducible refine (I2.out _ q2 t2 k2.out l2.out HT.out).mono ?_
     rintro e w8 ⟨rfl, hb⟩
     replace HW := kW HW hb
     replace HT := kT HT hb
     replace k2 := kH k2 hb
     replace D2 := kB D2 hb
     replace l2 := kH l2 hb
     replace E2 := hI (E2.out.keep hb)
     clear hb
     go_wp2_with (first | (with_reducible refine lG (.tmp 7) D2.out ?_) | (with_reducible refine lG (.tmp 10) E2.out ?_))
     go_ret
     exact ⟨ret_int hr1.out, HW.out⟩
   · have hn1 : (x1 != 0) = true := by rw [bne_iff_ne]; exact h1
     have hr1 : Hid (x1 = next x0 (next x1 x2)) := by show _ = _; rw [hr.out]; unfold next; rw [if_neg h1]
     clear h1
     go_wp2_with (first | (with_reducible refine lG (.tmp 7) D2.out ?_) | (with_reducible refine lG (.tmp 10) E2.out ?_))
     go_ret
     exact ⟨ret_int hr1.out, HW.out⟩
 · have hn : (x0 != 0) = true := by rw [bne_iff_ne]; exact h0
   have hr : Hid (x0 = next x0 (next x1 x2)) := by show _ = _; unfold next; rw [if_neg h0]
   clear h0
   go_wp2_with (first | (with_reducible refine lG (.tmp 6) D1.out ?_) | (with_reducible refine lG (.tmp 7) D2.out ?_) | (with_reducible refine lG (.tmp 9) E1.out ?_) | (with_reducible refine lG (.tmp 10) E2.out ?_))
   go_ret
   exact ⟨ret_int hr.out, HW.out⟩
theorem ordI_cast (m n : Nat) : ordI (m : Rat).num (n : Rat).num = cmpNt m n := by
 rw [Rat.num_natCast, Rat.num_natCast]
 unfold ordI cmpNt
 by_cases h : m < n
 · rw [if_pos (by omega), if_pos h]
 · rw [if_neg (by omega), if_neg h]
   by_cases h2 : n < m
   · rw [if_pos (by omega), if_pos h2]
   · rw [if_neg (by omega), if_neg h2]
theorem compareE : ∀ (a b : On) (p p' : Value) (w : World), a.ob.bd 90 → b.ob.bd 90 → Hd w a.ob p → Hd w b.ob p' → Tab w →
 Calls Tryz.prog 46 #[vO a.ob p, vO b.ob p'] w (RetI w (cmpE a b))
 | .fin m, .fin n, p, p', w, ha, hb, hp, hp', ht => by
  have h := compareNN (m : Rat) (n : Rat) p p' w ha hb hp hp'
  rw [ordI_cast] at h
  exact h
 | .fin m, .pw e c r, p, p', w, ha, hb, hp, hp', ht => compareNC (m : Rat) (.cons e.ob (.num (c : Rat))) r.ob p p' w hp hp'
 | .pw e c r, .fin m, p, p', w, ha, hb, hp, hp', ht => compareCN (m : Rat) (.cons e.ob (.num (c : Rat))) r.ob p p' w hp hp'
 | .pw e c r, .pw e' c' r', p, p', w, ha, hb, hp, hp', ht =>
  compareCC e.ob (.num (c : Rat)) r.ob e'.ob (.num (c' : Rat)) r'.ob p p' w _ _ _ hp hp' ht
   (fun X q t h h' hT => compareE e e' q t X ha.1.1 hb.1.1 h h' hT)
   (fun X q t h h' hT => by
    have h := compareNN (c : Rat) (c' : Rat) q t X ha.1.2 hb.1.2 h h'
    rw [ordI_cast] at h
    exact h)
   (fun X q t h h' hT => compareE r r' q t X ha.2 hb.2 h h' hT)
def Ob.posB : Ob → Bool
 | .num q => decide (q.den = 1) && decide (0 < q.num)
 | _ => false
theorem zero48 : val (LA ⟨#[48]⟩) = 0 := by decide
theorem cmpZ (q : Rat) (hb : Bd 90 q) (w : World) : Calls Tryz.prog 70 #[.string (nt q), .string ⟨#[48]⟩] w fun e w' => e = .returned (.int .i64 (ordI q.num 0)) ∧ w = w' :=
 cmpNum q hb ⟨#[48]⟩ 0 zero48 (by decide) w
theorem ordI_range (x y : Int) : ordI x y = -1 ∨ ordI x y = 0 ∨ ordI x y = 1 := by unfold ordI; split; exact .inl rfl; split; exact .inr (.inr rfl); exact .inr (.inl rfl)
theorem ordI_pos (x : Int) : (ordI x 0 = 1) = (0 < x) := by unfold ordI; apply propext; split; omega; split <;> omega
theorem ordI_nn (x : Int) : (0 ≤ ordI x 0) = (0 ≤ x) := by unfold ordI; apply propext; split; omega; split <;> omega
theorem isPosNum (q : Rat) (p : Value) (w : World) (hb : Bd 90 q) (hp : Hd w (.num q) p) :
 Calls Tryz.prog 78 #[vO (.num q) p] w (RetB w (Ob.posB (.num q))) := by
 have i0 : Hid (∀ X, Calls Tryz.prog 77 #[vO (.num q) p] X (RetB X (Ob.isInt (.num q)))) := fun X => isIntegerP (.num q) p X
 have c0 : Hid (∀ X, Calls Tryz.prog 70 #[.string (nt q), .string ⟨#[48]⟩] X fun e w' => e = .returned (.int .i64 (ordI q.num 0)) ∧ X = w') := fun X => cmpZ q hb X
 have hr := ordI_range q.num 0
 have hq : Ob.posB (.num q) = (Ob.isInt (.num q) && decide (ordI q.num 0 = 1)) := by
  unfold Ob.posB Ob.isInt
  rw [decide_eq_decide.2 (Iff.of_eq (ordI_pos q.num))]
 rw [hq]
 clear hq
 generalize Ob.isInt (.num q) = d at i0 ⊢
 generalize ordI q.num 0 = r at c0 hr ⊢
 cases d with
 | false =>
  obtain ⟨a0, a1, a2, a3, a4, a5, ea⟩ := cells7 (.num q) p
  have T := Bx1.new w #[a0, a1, a2, a3, a4, a5, p]
  rw [vO_cells ea]
  go_enter Tryz.func78, Tryz.ntmps78
  go_wp2_with fail
  generalize w.alloc (.cells #[a0, a1, a2, a3, a4, a5, p] 35) = W at T ⊢
  have B0 : Hid (Bx W (w.heap.size) (cellsO (.num q) p).toArray) := by rw [ea]; exact T.b0
  have K0 := hI (hp.below T.bel)
  have HW := hI T.bel
  try rw [← vO_cells ea]
  clear T ea hp
  go_wp2_with (with_reducible refine lG (.tmp 1) B0.out ?_)
  with_reducible refine (i0.out _).mono ?_
  rintro e w1 ⟨rfl, hb⟩
  replace B0 := kB B0 hb
  replace K0 := kH K0 hb
  replace HW := kW HW hb
  clear hb
  go_wp2_with (with_reducible refine lG (.tmp 1) B0.out ?_)
  go_ret
  exact ⟨rfl, HW.out⟩
 | true =>
  rcases hr with rfl | rfl | rfl
  all_goals
   obtain ⟨a0, a1, a2, a3, a4, a5, ea⟩ := cells7 (.num q) p
   have T := Bx1.new w #[a0, a1, a2, a3, a4, a5, p]
   rw [vO_cells ea]
   go_enter Tryz.func78, Tryz.ntmps78
   go_wp2_with fail
   generalize w.alloc (.cells #[a0, a1, a2, a3, a4, a5, p] 35) = W at T ⊢
   have B0 : Hid (Bx W (w.heap.size) (cellsO (.num q) p).toArray) := by rw [ea]; exact T.b0
   have K0 := hI (hp.below T.bel)
   have HW := hI T.bel
   try rw [← vO_cells ea]
   clear T ea hp
   go_wp2_with (with_reducible refine lG (.tmp 1) B0.out ?_)
   with_reducible refine (i0.out _).mono ?_
   rintro e w1 ⟨rfl, hb⟩
   replace B0 := kB B0 hb
   replace K0 := kH K0 hb
   replace HW := kW HW hb
   clear hb
   obtain ⟨_, m1, _⟩ := Bx.c B0.out
   go_wp2_with (with_reducible refine lG (.tmp 1) B0.out ?_)
   refine (c0.out _).mono ?_
   rintro e w9 ⟨rfl, rfl⟩
   go_wp2_with (with_reducible refine lG (.tmp 1) B0.out ?_)
   go_ret
   exact ⟨rfl, HW.out⟩
theorem isPosOther (o : Ob) (p : Value) (w : World) (hn : o.isNum = false) (hp : Hd w o p) :
 Calls Tryz.prog 78 #[vO o p] w (RetB w false) := by
 have i0 : Hid (∀ X, Calls Tryz.prog 77 #[vO o p] X (RetB X false)) := fun X => by
  have h := isIntegerP o p X
  have e : o.isInt = false := by cases o <;> first | rfl | cases hn
  rw [e] at h
  exact h
 obtain ⟨a0, a1, a2, a3, a4, a5, ea⟩ := cells7 (o) p
 have T := Bx1.new w #[a0, a1, a2, a3, a4, a5, p]
 rw [vO_cells ea]
 go_enter Tryz.func78, Tryz.ntmps78
 go_wp2_with fail
 generalize w.alloc (.cells #[a0, a1, a2, a3, a4, a5, p] 35) = W at T ⊢
 have B0 : Hid (Bx W (w.heap.size) (cellsO (o) p).toArray) := by rw [ea]; exact T.b0
 have K0 := hI (hp.below T.bel)
 have HW := hI T.bel
 try rw [← vO_cells ea]
 clear T ea hp
 go_wp2_with (with_reducible refine lG (.tmp 1) B0.out ?_)
 with_reducible refine (i0.out _).mono ?_
 rintro e w1 ⟨rfl, hb⟩
 replace B0 := kB B0 hb
 replace K0 := kH K0 hb
 replace HW := kW HW hb
 clear hb
 go_wp2_with (with_reducible refine lG (.tmp 1) B0.out ?_)
 go_ret
 exact ⟨rfl, HW.out⟩
theorem isPosH (o : Ob) (p : Value) (w : World) (hb : o.bd 90) (hp : Hd w o p) : Calls Tryz.prog 78 #[vO o p] w (RetB w o.posB) := by
 cases o with
 | num q => exact isPosNum q p w hb hp
 | str s => exact isPosOther _ p w rfl hp
 | sym x y => exact isPosOther _ p w rfl hp
 | cons a d => exact isPosOther _ p w rfl hp
theorem isOrdNum (q : Rat) (p : Value) (w : World) (hb : Bd 90 q) (hp : Hd w (.num q) p) :
 Calls Tryz.prog 53 #[vO (.num q) p] w (RetB w (ordOf (.num q)).isSome) := by
 have i0 : Hid (∀ X, Calls Tryz.prog 77 #[vO (.num q) p] X (RetB X (Ob.isInt (.num q)))) := fun X => isIntegerP (.num q) p X
 have c0 : Hid (∀ X, Calls Tryz.prog 70 #[.string (nt q), .string ⟨#[48]⟩] X fun e w' => e = .returned (.int .i64 (ordI q.num 0)) ∧ X = w') := fun X => cmpZ q hb X
 have hr := ordI_range q.num 0
 have hq : (ordOf (.num q)).isSome = (Ob.isInt (.num q) && decide (0 ≤ ordI q.num 0)) := by
  show (((Ob.num q).nat).map On.fin).isSome = _
  unfold Ob.nat Ob.isInt
  rw [show decide (0 ≤ ordI q.num 0) = decide (0 ≤ q.num) from decide_eq_decide.2 (Iff.of_eq (ordI_nn q.num))]
  by_cases h1 : q.den = 1
  · by_cases h2 : 0 ≤ q.num
    · simp [h1, h2]
    · simp [h1, h2]
  · simp [h1]
 rw [hq]
 clear hq
 generalize Ob.isInt (.num q) = d at i0 ⊢
 generalize ordI q.num 0 = r at c0 hr ⊢
 cases d with
 | false =>
  have ea : cellsO (.num q) p = [.int .i64 1, .string (nt q), .string (dt q), .string ⟨#[]⟩, .string ⟨#[]⟩, .string ⟨#[]⟩, p] := rfl
  have T := Bx1.new w #[.int .i64 1, .string (nt q), .string (dt q), .string ⟨#[]⟩, .string ⟨#[]⟩, .string ⟨#[]⟩, p]
  rw [vO_cells ea]
  go_enter Tryz.func53, Tryz.ntmps53
  go_wp2_with fail
  generalize w.alloc (.cells #[.int .i64 1, .string (nt q), .string (dt q), .string ⟨#[]⟩, .string ⟨#[]⟩, .string ⟨#[]⟩, p] 35) = W at T ⊢
  have B0 : Hid (Bx W (w.heap.size) (cellsO (.num q) p).toArray) := by rw [ea]; exact T.b0
  have K0 := hI (hp.below T.bel)
  have HW := hI T.bel
  try rw [← vO_cells ea]
  clear T ea hp
  obtain ⟨m0, m1, _⟩ := Bx.c B0.out
  go_wp2_with (with_reducible refine lG (.tmp 1) B0.out ?_)
  with_reducible refine (i0.out _).mono ?_
  rintro e w1 ⟨rfl, hb⟩
  replace B0 := kB B0 hb
  replace K0 := kH K0 hb
  replace HW := kW HW hb
  clear hb
  go_wp2_with (with_reducible refine lG (.tmp 1) B0.out ?_)
  go_ret
  exact ⟨rfl, HW.out⟩
 | true =>
  rcases hr with rfl | rfl | rfl
  all_goals
   have ea : cellsO (.num q) p = [.int .i64 1, .string (nt q), .string (dt q), .string ⟨#[]⟩, .string ⟨#[]⟩, .string ⟨#[]⟩, p] := rfl
   have T := Bx1.new w #[.int .i64 1, .string (nt q), .string (dt q), .string ⟨#[]⟩, .string ⟨#[]⟩, .string ⟨#[]⟩, p]
   rw [vO_cells ea]
   go_enter Tryz.func53, Tryz.ntmps53
   go_wp2_with fail
   generalize w.alloc (.cells #[.int .i64 1, .string (nt q), .string (dt q), .string ⟨#[]⟩, .string ⟨#[]⟩, .string ⟨#[]⟩, p] 35) = W at T ⊢
   have B0 : Hid (Bx W (w.heap.size) (cellsO (.num q) p).toArray) := by rw [ea]; exact T.b0
   have K0 := hI (hp.below T.bel)
   have HW := hI T.bel
   try rw [← vO_cells ea]
   clear T ea hp
   obtain ⟨m0, m1, _⟩ := Bx.c B0.out
   go_wp2_with (with_reducible refine lG (.tmp 1) B0.out ?_)
   with_reducible refine (i0.out _).mono ?_
   rintro e w1 ⟨rfl, hb⟩
   replace B0 := kB B0 hb
   replace K0 := kH K0 hb
   replace HW := kW HW hb
   clear hb
   obtain ⟨_, m1, _⟩ := Bx.c B0.out
   go_wp2_with (with_reducible refine lG (.tmp 1) B0.out ?_)
   refine (c0.out _).mono ?_
   rintro e w9 ⟨rfl, rfl⟩
   go_wp2_with (with_reducible refine lG (.tmp 1) B0.out ?_)
   go_ret
   exact ⟨rfl, HW.out⟩
theorem isOrdFlat (k : Int) (s1 s2 s3 s4 s5 : ByteArray) (o : Ob) (p : Value) (w : World) (hn : o.isNum = false) (hk : k ≠ 4) (ho : cellsO o p = [.int .i64 k, .string s1, .string s2, .string s3, .string s4, .string s5, p]) (hp : Hd w o p) :
 Calls Tryz.prog 53 #[vO o p] w (RetB w false) := by
 have i0 : Hid (∀ X, Calls Tryz.prog 77 #[vO o p] X (RetB X false)) := fun X => by
  have h := isIntegerP o p X
  have e : o.isInt = false := by cases o <;> first | rfl | cases hn
  rw [e] at h
  exact h
 have hk2 : (k != 4) = true := by rw [bne_iff_ne]; exact hk
 have T := Bx1.new w #[.int .i64 k, .string s1, .string s2, .string s3, .string s4, .string s5, p]
 rw [vO_cells ho]
 go_enter Tryz.func53, Tryz.ntmps53
 go_wp2_with fail
 try generalize w.alloc (.cells #[.int .i64 k, .string s1, .string s2, .string s3, .string s4, .string s5, p] 35) = W at T ⊢
 have B0 : Hid (Bx W w.heap.size (cellsO o p).toArray) := by rw [ho]; exact T.b0
 have HW := hI T.bel
 rw [← vO_cells ho]
 clear T ho hp
 with_reducible refine (i0.out _).mono ?_
 rintro e w1 ⟨rfl, hb⟩
 replace HW := kW HW hb
 clear hb
 go_wp2
 go_ret
 exact ⟨rfl, HW.out⟩
theorem isOrdCar (a d : Ob) (p : Value) (w : World) (ha : a.isCons = false) (hp : Hd w (.cons a d) p) :
 Calls Tryz.prog 53 #[vO (.cons a d) p] w (RetB w false) := by
 obtain ⟨b, o, cp, pa, pd, rfl, hc, hA, hD⟩ := Pair.parts hp
 have hlt : b < w.heap.size := hA.1.1
 obtain ⟨k, s1, s2, s3, s4, s5, ek, _, _⟩ := cells_flat a pa
 have l0 : w.cell? ⟨b, o, none⟩ = some (.int .i64 k) := hA.2.1 0 _ (by rw [ek]; rfl)
 have hk : (k != 4) = true := by
  rw [bne_iff_ne]
  rintro rfl
  cases a <;> simp [cellsO, Ob.isCons] at ek ha
 clear ek ha hA hD hp
 have T := Bx1.new w #[.int .i64 4, .string ⟨#[]⟩, .string ⟨#[]⟩, .string ⟨#[]⟩, .string ⟨#[]⟩, .string ⟨#[]⟩, .slice (some ⟨b, o, none⟩) 2 cp]
 have l0' := (T.bel.cell (p := ⟨b, o, none⟩) hlt).trans l0
 show Calls _ _ #[.agg #[.int .i64 4, .string ⟨#[]⟩, .string ⟨#[]⟩, .string ⟨#[]⟩, .string ⟨#[]⟩, .string ⟨#[]⟩, .slice (some ⟨b, o, none⟩) 2 cp]] _ _
 go_enter Tryz.func53, Tryz.ntmps53
 go_wp2_with fail
 all_goals go_ret
 all_goals exact ⟨rfl, T.bel⟩
theorem isOrd1 (e c r : Ob) (br : Bool) (p : Value) (w : World) (hp : Hd w (.cons (.cons e c) r) p) (ht : Tab w) (hc : c.bd 90) (iE : ∀ X q, Hd X e q → Tab X → Calls Tryz.prog 53 #[vO e q] X (RetB X false)) (iR : ∀ X q, Hd X r q → Tab X → Calls Tryz.prog 53 #[vO r q] X (RetB X br)) :
 Calls Tryz.prog 53 #[vO (.cons (.cons e c) r) p] w (RetB w false) := by
 have IE := hI iE
 have IR := hI iR
 clear iE iR
 have HC := hI hc
 clear hc
 obtain ⟨b1, o1, n1, pa, pd, rfl, hn1, hA, hD⟩ := Pair.parts hp
 have l9 : w.cell? ⟨b1, o1, none⟩ = some (.int .i64 4) := hA.2.1 0 _ rfl
 have hlt : b1 < w.heap.size := hA.1.1
 clear hA hD
 have ea : cellsO (.cons (.cons e c) r) (.slice (some ⟨b1, o1, none⟩) 2 n1) = [.int .i64 4, .string ⟨#[]⟩, .string ⟨#[]⟩, .string ⟨#[]⟩, .string ⟨#[]⟩, .string ⟨#[]⟩, (.slice (some ⟨b1, o1, none⟩) 2 n1)] := rfl
 have T := Bx1.new w #[.int .i64 4, .string ⟨#[]⟩, .string ⟨#[]⟩, .string ⟨#[]⟩, .string ⟨#[]⟩, .string ⟨#[]⟩, (.slice (some ⟨b1, o1, none⟩) 2 n1)]
 rw [vO_cells ea]
 go_enter Tryz.func53, Tryz.ntmps53
 go_wp2_with fail
 generalize w.alloc (.cells #[.int .i64 4, .string ⟨#[]⟩, .string ⟨#[]⟩, .string ⟨#[]⟩, .string ⟨#[]⟩, .string ⟨#[]⟩, (.slice (some ⟨b1, o1, none⟩) 2 n1)] 35) = W at T ⊢
 have B0 : Hid (Bx W (w.heap.size) (cellsO (.cons (.cons e c) r) (.slice (some ⟨b1, o1, none⟩) 2 n1)).toArray) := by rw [ea]; exact T.b0
 have K0 := hI (hp.below T.bel)
 have HW := hI T.bel
 have HT := hI (ht.below T.bel)
 try rw [← vO_cells ea]
 clear T ea hp ht
 have l0 := (HW.out.cell (p := ⟨b1, o1, none⟩) hlt).trans l9
 obtain ⟨m0, _, _, _, _, _, m6⟩ := Bx.c B0.out
 clear l9 hlt
 go_wp2_with (with_reducible refine lG (.tmp 1) B0.out ?_)
 clear l0 m0 m6
 with_reducible refine (partsCons e c r (.slice (some ⟨b1, o1, none⟩) 2 n1) _ K0.out).mono ?_
 rintro e w1 ⟨q0, q1, q2, rfl, k0, k1, k2, hb⟩
 replace B0 := kB B0 hb
 replace K0 := kH K0 hb
 replace HW := kW HW hb
 replace HT := kT HT hb
 clear hb
 replace k0 := hI k0
 replace k1 := hI k1
 replace k2 := hI k2
 have T := hI (Bx3.new w1 #[.int .i64 0, .string ⟨#[]⟩, .string ⟨#[]⟩, .string ⟨#[]⟩, .string ⟨#[]⟩, .string ⟨#[]⟩, .slice none 0 0] #[.int .i64 0, .string ⟨#[]⟩, .string ⟨#[]⟩, .string ⟨#[]⟩, .string ⟨#[]⟩, .string ⟨#[]⟩, .slice none 0 0] #[.int .i64 0, .string ⟨#[]⟩, .string ⟨#[]⟩, .string ⟨#[]⟩, .string ⟨#[]⟩, .string ⟨#[]⟩, .slice none 0 0])
 try unfold zeroC at T
 go_wp2_with (first | (with_reducible refine sB (.tmp 3) (.tmp 29) k0.out T.out.b0 ?_) | (with_reducible refine sB (.tmp 4) (.tmp 30) k1.out T.out.n1 ?_) | (with_reducible refine sB (.tmp 5) (.tmp 31) k2.out T.out.n2 ?_; have P := Pt3.new (w := w1) (o0 := e) (o1 := c) (o2 := r) (p0 := q0) (p1 := q1) (p2 := q2) (z0 := #[.int .i64 0, .string ⟨#[]⟩, .string ⟨#[]⟩, .string ⟨#[]⟩, .string ⟨#[]⟩, .string ⟨#[]⟩, .slice none 0 0]) (z1 := #[.int .i64 0, .string ⟨#[]⟩, .string ⟨#[]⟩, .string ⟨#[]⟩, .string ⟨#[]⟩, .string ⟨#[]⟩, .slice none 0 0]) (z2 := #[.int .i64 0, .string ⟨#[]⟩, .string ⟨#[]⟩, .string ⟨#[]⟩, .string ⟨#[]⟩, .string ⟨#[]⟩, .slice none 0 0]); generalize World.setRow (World.setRow (World.setRow (((w1.alloc (.cells #[.int .i64 0, .string ⟨#[]⟩, .string ⟨#[]⟩, .string ⟨#[]⟩, .string ⟨#[]⟩, .string ⟨#[]⟩, .slice none 0 0] 35)).alloc (.cells #[.int .i64 0, .string ⟨#[]⟩, .string ⟨#[]⟩, .string ⟨#[]⟩, .string ⟨#[]⟩, .string ⟨#[]⟩, .slice none 0 0] 35)).alloc (.cells #[.int .i64 0, .string ⟨#[]⟩, .string ⟨#[]⟩, .string ⟨#[]⟩, .string ⟨#[]⟩, .string ⟨#[]⟩, .slice none 0 0] 35)) (w1.heap.size) (cellsO (e) q0).toArray) (w1.heap.size + 1) (cellsO (c) q1).toArray) (w1.heap.size + 1 + 1) (cellsO (r) q2).toArray = X1 at P ⊢; have hb := P.bel; replace B0 := kB B0 hb; replace K0 := kH K0 hb; replace HW := kW HW hb; replace HT := kT HT hb; replace k0 := kH k0 hb; replace k1 := kH k1 hb; replace k2 := kH k2 hb; have D0 := hI P.b0; have D1 := hI P.b1; have D2 := hI P.b2; clear P hb T) | (with_reducible refine lG (.tmp 1) B0.out ?_) | (with_reducible refine lG (.tmp 3) D0.out ?_) | (with_reducible refine lG (.tmp 4) D1.out ?_) | (with_reducible refine lG (.tmp 5) D2.out ?_))
 clear B0 K0
 with_reducible refine (IE.out _ q0 k0.out HT.out).mono ?_
 rintro e w2 ⟨rfl, hb⟩
 replace HW := kW HW hb
 replace HT := kT HT hb
 replace k0 := kH k0 hb
 replace k1 := kH k1 hb
 replace k2 := kH k2 hb
 replace D0 := kB D0 hb
 replace D1 := kB D1 hb
 replace D2 := kB D2 hb
 clear hb
 go_wp2_with (first | (with_reducible refine lG (.tmp 3) D0.out ?_) | (with_reducible refine lG (.tmp 4) D1.out ?_) | (with_reducible refine lG (.tmp 5) D2.out ?_))
 go_ret
 exact ⟨rfl, HW.out⟩
theorem isOrd2 (e c r : Ob) (br : Bool) (p : Value) (w : World) (hp : Hd w (.cons (.cons e c) r) p) (ht : Tab w) (hc : c.bd 90) (iE : ∀ X q, Hd X e q → Tab X → Calls Tryz.prog 53 #[vO e q] X (RetB X true)) (iR : ∀ X q, Hd X r q → Tab X → Calls Tryz.prog 53 #[vO r q] X (RetB X br)) (hz : e.numIs 0 = true) :
 Calls Tryz.prog 53 #[vO (.cons (.cons e c) r) p] w (RetB w false) := by
 have IE := hI iE
 have IR := hI iR
 clear iE iR
 have HC := hI hc
 clear hc
 obtain ⟨b1, o1, n1, pa, pd, rfl, hn1, hA, hD⟩ := Pair.parts hp
 have l9 : w.cell? ⟨b1, o1, none⟩ = some (.int .i64 4) := hA.2.1 0 _ rfl
 have hlt : b1 < w.heap.size := hA.1.1
 clear hA hD
 have ea : cellsO (.cons (.cons e c) r) (.slice (some ⟨b1, o1, none⟩) 2 n1) = [.int .i64 4, .string ⟨#[]⟩, .string ⟨#[]⟩, .string ⟨#[]⟩, .string ⟨#[]⟩, .string ⟨#[]⟩, (.slice (some ⟨b1, o1, none⟩) 2 n1)] := rfl
 have T := Bx1.new w #[.int .i64 4, .string ⟨#[]⟩, .string ⟨#[]⟩, .string ⟨#[]⟩, .string ⟨#[]⟩, .string ⟨#[]⟩, (.slice (some ⟨b1, o1, none⟩) 2 n1)]
 rw [vO_cells ea]
 go_enter Tryz.func53, Tryz.ntmps53
 go_wp2_with fail
 generalize w.alloc (.cells #[.int .i64 4, .string ⟨#[]⟩, .string ⟨#[]⟩, .string ⟨#[]⟩, .string ⟨#[]⟩, .string ⟨#[]⟩, (.slice (some ⟨b1, o1, none⟩) 2 n1)] 35) = W at T ⊢
 have B0 : Hid (Bx W (w.heap.size) (cellsO (.cons (.cons e c) r) (.slice (some ⟨b1, o1, none⟩) 2 n1)).toArray) := by rw [ea]; exact T.b0
 have K0 := hI (hp.below T.bel)
 have HW := hI T.bel
 have HT := hI (ht.below T.bel)
 try rw [← vO_cells ea]
 clear T ea hp ht
 have l0 := (HW.out.cell (p := ⟨b1, o1, none⟩) hlt).trans l9
 obtain ⟨m0, _, _, _, _, _, m6⟩ := Bx.c B0.out
 clear l9 hlt
 go_wp2_with (with_reducible refine lG (.tmp 1) B0.out ?_)
 clear l0 m0 m6
 with_reducible refine (partsCons e c r (.slice (some ⟨b1, o1, none⟩) 2 n1) _ K0.out).mono ?_
 rintro e w1 ⟨q0, q1, q2, rfl, k0, k1, k2, hb⟩
 replace B0 := kB B0 hb
 replace K0 := kH K0 hb
 replace HW := kW HW hb
 replace HT := kT HT hb
 clear hb
 replace k0 := hI k0
 replace k1 := hI k1
 replace k2 := hI k2
 have T := hI (Bx3.new w1 #[.int .i64 0, .string ⟨#[]⟩, .string ⟨#[]⟩, .string ⟨#[]⟩, .string ⟨#[]⟩, .string ⟨#[]⟩, .slice none 0 0] #[.int .i64 0, .string ⟨#[]⟩, .string ⟨#[]⟩, .string ⟨#[]⟩, .string ⟨#[]⟩, .string ⟨#[]⟩, .slice none 0 0] #[.int .i64 0, .string ⟨#[]⟩, .string ⟨#[]⟩, .string ⟨#[]⟩, .string ⟨#[]⟩, .string ⟨#[]⟩, .slice none 0 0])
 try unfold zeroC at T
 go_wp2_with (first | (with_reducible refine sB (.tmp 3) (.tmp 29) k0.out T.out.b0 ?_) | (with_reducible refine sB (.tmp 4) (.tmp 30) k1.out T.out.n1 ?_) | (with_reducible refine sB (.tmp 5) (.tmp 31) k2.out T.out.n2 ?_; have P := Pt3.new (w := w1) (o0 := e) (o1 := c) (o2 := r) (p0 := q0) (p1 := q1) (p2 := q2) (z0 := #[.int .i64 0, .string ⟨#[]⟩, .string ⟨#[]⟩, .string ⟨#[]⟩, .string ⟨#[]⟩, .string ⟨#[]⟩, .slice none 0 0]) (z1 := #[.int .i64 0, .string ⟨#[]⟩, .string ⟨#[]⟩, .string ⟨#[]⟩, .string ⟨#[]⟩, .string ⟨#[]⟩, .slice none 0 0]) (z2 := #[.int .i64 0, .string ⟨#[]⟩, .string ⟨#[]⟩, .string ⟨#[]⟩, .string ⟨#[]⟩, .string ⟨#[]⟩, .slice none 0 0]); generalize World.setRow (World.setRow (World.setRow (((w1.alloc (.cells #[.int .i64 0, .string ⟨#[]⟩, .string ⟨#[]⟩, .string ⟨#[]⟩, .string ⟨#[]⟩, .string ⟨#[]⟩, .slice none 0 0] 35)).alloc (.cells #[.int .i64 0, .string ⟨#[]⟩, .string ⟨#[]⟩, .string ⟨#[]⟩, .string ⟨#[]⟩, .string ⟨#[]⟩, .slice none 0 0] 35)).alloc (.cells #[.int .i64 0, .string ⟨#[]⟩, .string ⟨#[]⟩, .string ⟨#[]⟩, .string ⟨#[]⟩, .string ⟨#[]⟩, .slice none 0 0] 35)) (w1.heap.size) (cellsO (e) q0).toArray) (w1.heap.size + 1) (cellsO (c) q1).toArray) (w1.heap.size + 1 + 1) (cellsO (r) q2).toArray = X1 at P ⊢; have hb := P.bel; replace B0 := kB B0 hb; replace K0 := kH K0 hb; replace HW := kW HW hb; replace HT := kT HT hb; replace k0 := kH k0 hb; replace k1 := kH k1 hb; replace k2 := kH k2 hb; have D0 := hI P.b0; have D1 := hI P.b1; have D2 := hI P.b2; clear P hb T) | (with_reducible refine lG (.tmp 1) B0.out ?_) | (with_reducible refine lG (.tmp 3) D0.out ?_) | (with_reducible refine lG (.tmp 4) D1.out ?_) | (with_reducible refine lG (.tmp 5) D2.out ?_))
 clear B0 K0
 with_reducible refine (IE.out _ q0 k0.out HT.out).mono ?_
 rintro e w2 ⟨rfl, hb⟩
 replace HW := kW HW hb
 replace HT := kT HT hb
 replace k0 := kH k0 hb
 replace k1 := kH k1 hb
 replace k2 := kH k2 hb
 replace D0 := kB D0 hb
 replace D1 := kB D1 hb
 replace D2 := kB D2 hb
 clear hb
 go_wp2_with (first | (with_reducible refine lG (.tmp 3) D0.out ?_) | (with_reducible refine lG (.tmp 4) D1.out ?_) | (with_reducible refine lG (.tmp 5) D2.out ?_))
 with_reducible refine (isZeroH e q0 _ _ hz).mono ?_
 rintro e w3 ⟨rfl, hb⟩
 replace HW := kW HW hb
 replace HT := kT HT hb
 replace k0 := kH k0 hb
 replace k1 := kH k1 hb
 replace k2 := kH k2 hb
 replace D0 := kB D0 hb
 replace D1 := kB D1 hb
 replace D2 := kB D2 hb
 clear hb
 go_wp2_with (first | (with_reducible refine lG (.tmp 3) D0.out ?_) | (with_reducible refine lG (.tmp 4) D1.out ?_) | (with_reducible refine lG (.tmp 5) D2.out ?_))
 go_ret
 exact ⟨rfl, HW.out⟩
theorem isOrd3 (e c r : Ob) (br : Bool) (p : Value) (w : World) (hp : Hd w (.cons (.cons e c) r) p) (ht : Tab w) (hc : c.bd 90) (iE : ∀ X q, Hd X e q → Tab X → Calls Tryz.prog 53 #[vO e q] X (RetB X true)) (iR : ∀ X q, Hd X r q → Tab X → Calls Tryz.prog 53 #[vO r q] X (RetB X br)) (hz : e.numIs 0 = false) (hpos : c.posB = false) :
 Calls Tryz.prog 53 #[vO (.cons (.cons e c) r) p] w (RetB w false) := by
 have IE := hI iE
 have IR := hI iR
 clear iE iR
 have HP : Hid (∀ X q, Hd X c q → Calls Tryz.prog 78 #[vO c q] X (RetB X false)) := fun X q h => by rw [← hpos]; exact isPosH c q X hc h
 clear hc hpos
 obtain ⟨b1, o1, n1, pa, pd, rfl, hn1, hA, hD⟩ := Pair.parts hp
 have l9 : w.cell? ⟨b1, o1, none⟩ = some (.int .i64 4) := hA.2.1 0 _ rfl
 have hlt : b1 < w.heap.size := hA.1.1
 clear hA hD
 have ea : cellsO (.cons (.cons e c) r) (.slice (some ⟨b1, o1, none⟩) 2 n1) = [.int .i64 4, .string ⟨#[]⟩, .string ⟨#[]⟩, .string ⟨#[]⟩, .string ⟨#[]⟩, .string ⟨#[]⟩, (.slice (some ⟨b1, o1, none⟩) 2 n1)] := rfl
 have T := Bx1.new w #[.int .i64 4, .string ⟨#[]⟩, .string ⟨#[]⟩, .string ⟨#[]⟩, .string ⟨#[]⟩, .string ⟨#[]⟩, (.slice (some ⟨b1, o1, none⟩) 2 n1)]
 rw [vO_cells ea]
 go_enter Tryz.func53, Tryz.ntmps53
 go_wp2_with fail
 generalize w.alloc (.cells #[.int .i64 4, .string ⟨#[]⟩, .string ⟨#[]⟩, .string ⟨#[]⟩, .string ⟨#[]⟩, .string ⟨#[]⟩, (.slice (some ⟨b1, o1, none⟩) 2 n1)] 35) = W at T ⊢
 have B0 : Hid (Bx W (w.heap.size) (cellsO (.cons (.cons e c) r) (.slice (some ⟨b1, o1, none⟩) 2 n1)).toArray) := by rw [ea]; exact T.b0
 have K0 := hI (hp.below T.bel)
 have HW := hI T.bel
 have HT := hI (ht.below T.bel)
 try rw [← vO_cells ea]
 clear T ea hp ht
 have l0 := (HW.out.cell (p := ⟨b1, o1, none⟩) hlt).trans l9
 obtain ⟨m0, _, _, _, _, _, m6⟩ := Bx.c B0.out
 clear l9 hlt
 go_wp2_with (with_reducible refine lG (.tmp 1) B0.out ?_)
 clear l0 m0 m6
 with_reducible refine (partsCons e c r (.slice (some ⟨b1, o1, none⟩) 2 n1) _ K0.out).mono ?_
 rintro e w1 ⟨q0, q1, q2, rfl, k0, k1, k2, hb⟩
 replace B0 := kB B0 hb
 replace K0 := kH K0 hb
 replace HW := kW HW hb
 replace HT := kT HT hb
 clear hb
 replace k0 := hI k0
 replace k1 := hI k1
 replace k2 := hI k2
 have T := hI (Bx3.new w1 #[.int .i64 0, .string ⟨#[]⟩, .string ⟨#[]⟩, .string ⟨#[]⟩, .string ⟨#[]⟩, .string ⟨#[]⟩, .slice none 0 0] #[.int .i64 0, .string ⟨#[]⟩, .string ⟨#[]⟩, .string ⟨#[]⟩, .string ⟨#[]⟩, .string ⟨#[]⟩, .slice none 0 0] #[.int .i64 0, .string ⟨#[]⟩, .string ⟨#[]⟩, .string ⟨#[]⟩, .string ⟨#[]⟩, .string ⟨#[]⟩, .slice none 0 0])
 try unfold zeroC at T
 go_wp2_with (first | (with_reducible refine sB (.tmp 3) (.tmp 29) k0.out T.out.b0 ?_) | (with_reducible refine sB (.tmp 4) (.tmp 30) k1.out T.out.n1 ?_) | (with_reducible refine sB (.tmp 5) (.tmp 31) k2.out T.out.n2 ?_; have P := Pt3.new (w := w1) (o0 := e) (o1 := c) (o2 := r) (p0 := q0) (p1 := q1) (p2 := q2) (z0 := #[.int .i64 0, .string ⟨#[]⟩, .string ⟨#[]⟩, .string ⟨#[]⟩, .string ⟨#[]⟩, .string ⟨#[]⟩, .slice none 0 0]) (z1 := #[.int .i64 0, .string ⟨#[]⟩, .string ⟨#[]⟩, .string ⟨#[]⟩, .string ⟨#[]⟩, .string ⟨#[]⟩, .slice none 0 0]) (z2 := #[.int .i64 0, .string ⟨#[]⟩, .string ⟨#[]⟩, .string ⟨#[]⟩, .string ⟨#[]⟩, .string ⟨#[]⟩, .slice none 0 0]); generalize World.setRow (World.setRow (World.setRow (((w1.alloc (.cells #[.int .i64 0, .string ⟨#[]⟩, .string ⟨#[]⟩, .string ⟨#[]⟩, .string ⟨#[]⟩, .string ⟨#[]⟩, .slice none 0 0] 35)).alloc (.cells #[.int .i64 0, .string ⟨#[]⟩, .string ⟨#[]⟩, .string ⟨#[]⟩, .string ⟨#[]⟩, .string ⟨#[]⟩, .slice none 0 0] 35)).alloc (.cells #[.int .i64 0, .string ⟨#[]⟩, .string ⟨#[]⟩, .string ⟨#[]⟩, .string ⟨#[]⟩, .string ⟨#[]⟩, .slice none 0 0] 35)) (w1.heap.size) (cellsO (e) q0).toArray) (w1.heap.size + 1) (cellsO (c) q1).toArray) (w1.heap.size + 1 + 1) (cellsO (r) q2).toArray = X1 at P ⊢; have hb := P.bel; replace B0 := kB B0 hb; replace K0 := kH K0 hb; replace HW := kW HW hb; replace HT := kT HT hb; replace k0 := kH k0 hb; replace k1 := kH k1 hb; replace k2 := kH k2 hb; have D0 := hI P.b0; have D1 := hI P.b1; have D2 := hI P.b2; clear P hb T) | (with_reducible refine lG (.tmp 1) B0.out ?_) | (with_reducible refine lG (.tmp 3) D0.out ?_) | (with_reducible refine lG (.tmp 4) D1.out ?_) | (with_reducible refine lG (.tmp 5) D2.out ?_))
 clear B0 K0
 with_reducible refine (IE.out _ q0 k0.out HT.out).mono ?_
 rintro e w2 ⟨rfl, hb⟩
 replace HW := kW HW hb
 replace HT := kT HT hb
 replace k0 := kH k0 hb
 replace k1 := kH k1 hb
 replace k2 := kH k2 hb
 replace D0 := kB D0 hb
 replace D1 := kB D1 hb
 replace D2 := kB D2 hb
 clear hb
 go_wp2_with (first | (with_reducible refine lG (.tmp 3) D0.out ?_) | (with_reducible refine lG (.tmp 4) D1.out ?_) | (with_reducible refine lG (.tmp 5) D2.out ?_))
 with_reducible refine (isZeroH e q0 _ _ hz).mono ?_
 rintro e w3 ⟨rfl, hb⟩
 replace HW := kW HW hb
 replace HT := kT HT hb
 replace k0 := kH k0 hb
 replace k1 := kH k1 hb
 replace k2 := kH k2 hb
 replace D0 := kB D0 hb
 replace D1 := kB D1 hb
 replace D2 := kB D2 hb
 clear hb
 go_wp2_with (first | (with_reducible refine lG (.tmp 3) D0.out ?_) | (with_reducible refine lG (.tmp 4) D1.out ?_) | (with_reducible refine lG (.tmp 5) D2.out ?_))
 with_reducible refine (HP.out _ q1 k1.out).mono ?_
 rintro e w4 ⟨rfl, hb⟩
 replace HW := kW HW hb
 replace HT := kT HT hb
 replace k0 := kH k0 hb
 replace k1 := kH k1 hb
 replace k2 := kH k2 hb
 replace D0 := kB D0 hb
 replace D1 := kB D1 hb
 replace D2 := kB D2 hb
 clear hb
 go_wp2_with (first | (with_reducible refine lG (.tmp 3) D0.out ?_) | (with_reducible refine lG (.tmp 4) D1.out ?_) | (with_reducible refine lG (.tmp 5) D2.out ?_))
 go_ret
 exact ⟨rfl, HW.out⟩
theorem isOrd4 (e c r : Ob) (p : Value) (w : World) (hp : Hd w (.cons (.cons e c) r) p) (ht : Tab w) (hc : c.bd 90) (iE : ∀ X q, Hd X e q → Tab X → Calls Tryz.prog 53 #[vO e q] X (RetB X true)) (iR : ∀ X q, Hd X r q → Tab X → Calls Tryz.prog 53 #[vO r q] X (RetB X false)) (hz : e.numIs 0 = false) (hpos : c.posB = true) :
 Calls Tryz.prog 53 #[vO (.cons (.cons e c) r) p] w (RetB w false) := by
 have IE := hI iE
 have IR := hI iR
 clear iE iR
 have HP : Hid (∀ X q, Hd X c q → Calls Tryz.prog 78 #[vO c q] X (RetB X true)) := fun X q h => by rw [← hpos]; exact isPosH c q X hc h
 clear hc hpos
 obtain ⟨b1, o1, n1, pa, pd, rfl, hn1, hA, hD⟩ := Pair.parts hp
 have l9 : w.cell? ⟨b1, o1, none⟩ = some (.int .i64 4) := hA.2.1 0 _ rfl
 have hlt : b1 < w.heap.size := hA.1.1
 clear hA hD
 have ea : cellsO (.cons (.cons e c) r) (.slice (some ⟨b1, o1, none⟩) 2 n1) = [.int .i64 4, .string ⟨#[]⟩, .string ⟨#[]⟩, .string ⟨#[]⟩, .string ⟨#[]⟩, .string ⟨#[]⟩, (.slice (some ⟨b1, o1, none⟩) 2 n1)] := rfl
 have T := Bx1.new w #[.int .i64 4, .string ⟨#[]⟩, .string ⟨#[]⟩, .string ⟨#[]⟩, .string ⟨#[]⟩, .string ⟨#[]⟩, (.slice (some ⟨b1, o1, none⟩) 2 n1)]
 rw [vO_cells ea]
 go_enter Tryz.func53, Tryz.ntmps53
 go_wp2_with fail
 generalize w.alloc (.cells #[.int .i64 4, .string ⟨#[]⟩, .string ⟨#[]⟩, .string ⟨#[]⟩, .string ⟨#[]⟩, .string ⟨#[]⟩, (.slice (some ⟨b1, o1, none⟩) 2 n1)] 35) = W at T ⊢
 have B0 : Hid (Bx W (w.heap.size) (cellsO (.cons (.cons e c) r) (.slice (some ⟨b1, o1, none⟩) 2 n1)).toArray) := by rw [ea]; exact T.b0
 have K0 := hI (hp.below T.bel)
 have HW := hI T.bel
 have HT := hI (ht.below T.bel)
 try rw [← vO_cells ea]
 clear T ea hp ht
 have l0 := (HW.out.cell (p := ⟨b1, o1, none⟩) hlt).trans l9
 obtain ⟨m0, _, _, _, _, _, m6⟩ := Bx.c B0.out
 clear l9 hlt
 go_wp2_with (with_reducible refine lG (.tmp 1) B0.out ?_)
 clear l0 m0 m6
 with_reducible refine (partsCons e c r (.slice (some ⟨b1, o1, none⟩) 2 n1) _ K0.out).mono ?_
 rintro e w1 ⟨q0, q1, q2, rfl, k0, k1, k2, hb⟩
 replace B0 := kB B0 hb
 replace K0 := kH K0 hb
 replace HW := kW HW hb
 replace HT := kT HT hb
 clear hb
 replace k0 := hI k0
 replace k1 := hI k1
 replace k2 := hI k2
 have T := hI (Bx3.new w1 #[.int .i64 0, .string ⟨#[]⟩, .string ⟨#[]⟩, .string ⟨#[]⟩, .string ⟨#[]⟩, .string ⟨#[]⟩, .slice none 0 0] #[.int .i64 0, .string ⟨#[]⟩, .string ⟨#[]⟩, .string ⟨#[]⟩, .string ⟨#[]⟩, .string ⟨#[]⟩, .slice none 0 0] #[.int .i64 0, .string ⟨#[]⟩, .string ⟨#[]⟩, .string ⟨#[]⟩, .string ⟨#[]⟩, .string ⟨#[]⟩, .slice none 0 0])
 try unfold zeroC at T
 go_wp2_with (first | (with_reducible refine sB (.tmp 3) (.tmp 29) k0.out T.out.b0 ?_) | (with_reducible refine sB (.tmp 4) (.tmp 30) k1.out T.out.n1 ?_) | (with_reducible refine sB (.tmp 5) (.tmp 31) k2.out T.out.n2 ?_; have P := Pt3.new (w := w1) (o0 := e) (o1 := c) (o2 := r) (p0 := q0) (p1 := q1) (p2 := q2) (z0 := #[.int .i64 0, .string ⟨#[]⟩, .string ⟨#[]⟩, .string ⟨#[]⟩, .string ⟨#[]⟩, .string ⟨#[]⟩, .slice none 0 0]) (z1 := #[.int .i64 0, .string ⟨#[]⟩, .string ⟨#[]⟩, .string ⟨#[]⟩, .string ⟨#[]⟩, .string ⟨#[]⟩, .slice none 0 0]) (z2 := #[.int .i64 0, .string ⟨#[]⟩, .string ⟨#[]⟩, .string ⟨#[]⟩, .string ⟨#[]⟩, .string ⟨#[]⟩, .slice none 0 0]); generalize World.setRow (World.setRow (World.setRow (((w1.alloc (.cells #[.int .i64 0, .string ⟨#[]⟩, .string ⟨#[]⟩, .string ⟨#[]⟩, .string ⟨#[]⟩, .string ⟨#[]⟩, .slice none 0 0] 35)).alloc (.cells #[.int .i64 0, .string ⟨#[]⟩, .string ⟨#[]⟩, .string ⟨#[]⟩, .string ⟨#[]⟩, .string ⟨#[]⟩, .slice none 0 0] 35)).alloc (.cells #[.int .i64 0, .string ⟨#[]⟩, .string ⟨#[]⟩, .string ⟨#[]⟩, .string ⟨#[]⟩, .string ⟨#[]⟩, .slice none 0 0] 35)) (w1.heap.size) (cellsO (e) q0).toArray) (w1.heap.size + 1) (cellsO (c) q1).toArray) (w1.heap.size + 1 + 1) (cellsO (r) q2).toArray = X1 at P ⊢; have hb := P.bel; replace B0 := kB B0 hb; replace K0 := kH K0 hb; replace HW := kW HW hb; replace HT := kT HT hb; replace k0 := kH k0 hb; replace k1 := kH k1 hb; replace k2 := kH k2 hb; have D0 := hI P.b0; have D1 := hI P.b1; have D2 := hI P.b2; clear P hb T) | (with_reducible refine lG (.tmp 1) B0.out ?_) | (with_reducible refine lG (.tmp 3) D0.out ?_) | (with_reducible refine lG (.tmp 4) D1.out ?_) | (with_reducible refine lG (.tmp 5) D2.out ?_))
 clear B0 K0
 with_reducible refine (IE.out _ q0 k0.out HT.out).mono ?_
 rintro e w2 ⟨rfl, hb⟩
 replace HW := kW HW hb
 replace HT := kT HT hb
 replace k0 := kH k0 hb
 replace k1 := kH k1 hb
 replace k2 := kH k2 hb
 replace D0 := kB D0 hb
 replace D1 := kB D1 hb
 replace D2 := kB D2 hb
 clear hb
 go_wp2_with (first | (with_reducible refine lG (.tmp 3) D0.out ?_) | (with_reducible refine lG (.tmp 4) D1.out ?_) | (with_reducible refine lG (.tmp 5) D2.out ?_))
 with_reducible refine (isZeroH e q0 _ _ hz).mono ?_
 rintro e w3 ⟨rfl, hb⟩
 replace HW := kW HW hb
 replace HT := kT HT hb
 replace k0 := kH k0 hb
 replace k1 := kH k1 hb
 replace k2 := kH k2 hb
 replace D0 := kB D0 hb
 replace D1 := kB D1 hb
 replace D2 := kB D2 hb
 clear hb
 go_wp2_with (first | (with_reducible refine lG (.tmp 3) D0.out ?_) | (with_reducible refine lG (.tmp 4) D1.out ?_) | (with_reducible refine lG (.tmp 5) D2.out ?_))
 with_reducible refine (HP.out _ q1 k1.out).mono ?_
 rintro e w4 ⟨rfl, hb⟩
 replace HW := kW HW hb
 replace HT := kT HT hb
 replace k0 := kH k0 hb
 replace k1 := kH k1 hb
 replace k2 := kH k2 hb
 replace D0 := kB D0 hb
 replace D1 := kB D1 hb
 replace D2 := kB D2 hb
 clear hb
 go_wp2_with (first | (with_reducible refine lG (.tmp 3) D0.out ?_) | (with_reducible refine lG (.tmp 4) D1.out ?_) | (with_reducible refine lG (.tmp 5) D2.out ?_))
 with_reducible refine (IR.out _ q2 k2.out HT.out).mono ?_
 rintro e w5 ⟨rfl, hb⟩
 replace HW := kW HW hb
 replace HT := kT HT hb
 replace k0 := kH k0 hb
 replace k1 := kH k1 hb
 replace k2 := kH k2 hb
 replace D0 := kB D0 hb
 replace D1 := kB D1 hb
 replace D2 := kB D2 hb
 clear hb
 go_wp2_with (first | (with_reducible refine lG (.tmp 3) D0.out ?_) | (with_reducible refine lG (.tmp 4) D1.out ?_) | (with_reducible refine lG (.tmp 5) D2.out ?_))
 go_ret
 exact ⟨rfl, HW.out⟩
theorem isOrd5 (e c r : Ob) (p : Value) (w : World) (hp : Hd w (.cons (.cons e c) r) p) (ht : Tab w) (hc : c.bd 90) (iE : ∀ X q, Hd X e q → Tab X → Calls Tryz.prog 53 #[vO e q] X (RetB X true)) (iR : ∀ X q, Hd X r q → Tab X → Calls Tryz.prog 53 #[vO r q] X (RetB X true)) (hz : e.numIs 0 = false) (hpos : c.posB = true) (x y z : Ob) (k : Int) (pR : ∀ X q, Hd X r q → Tab X → Calls Tryz.prog 55 #[vO r q] X (RetP X x y z)) (cM : ∀ X q t, Hd X x q → Hd X e t → Tab X → Calls Tryz.prog 46 #[vO x q, vO e t] X (RetI X k)) :
 Calls Tryz.prog 53 #[vO (.cons (.cons e c) r) p] w (RetB w (decide (k < 0))) := by
 have IE := hI iE
 have IR := hI iR
 clear iE iR
 have PR := hI pR
 have CM := hI cM
 clear pR cM
 have HP : Hid (∀ X q, Hd X c q → Calls Tryz.prog 78 #[vO c q] X (RetB X true)) := fun X q h => by rw [← hpos]; exact isPosH c q X hc h
 clear hc hpos
 obtain ⟨b1, o1, n1, pa, pd, rfl, hn1, hA, hD⟩ := Pair.parts hp
 have l9 : w.cell? ⟨b1, o1, none⟩ = some (.int .i64 4) := hA.2.1 0 _ rfl
 have hlt : b1 < w.heap.size := hA.1.1
 clear hA hD
 have ea : cellsO (.cons (.cons e c) r) (.slice (some ⟨b1, o1, none⟩) 2 n1) = [.int .i64 4, .string ⟨#[]⟩, .string ⟨#[]⟩, .string ⟨#[]⟩, .string ⟨#[]⟩, .string ⟨#[]⟩, (.slice (some ⟨b1, o1, none⟩) 2 n1)] := rfl
 have T := Bx1.new w #[.int .i64 4, .string ⟨#[]⟩, .string ⟨#[]⟩, .string ⟨#[]⟩, .string ⟨#[]⟩, .string ⟨#[]⟩, (.slice (some ⟨b1, o1, none⟩) 2 n1)]
 rw [vO_cells ea]
 go_enter Tryz.func53, Tryz.ntmps53
 go_wp2_with fail
 generalize w.alloc (.cells #[.int .i64 4, .string ⟨#[]⟩, .string ⟨#[]⟩, .string ⟨#[]⟩, .string ⟨#[]⟩, .string ⟨#[]⟩, (.slice (some ⟨b1, o1, none⟩) 2 n1)] 35) = W at T ⊢
 have B0 : Hid (Bx W (w.heap.size) (cellsO (.cons (.cons e c) r) (.slice (some ⟨b1, o1, none⟩) 2 n1)).toArray) := by rw [ea]; exact T.b0
 have K0 := hI (hp.below T.bel)
 have HW := hI T.bel
 have HT := hI (ht.below T.bel)
 try rw [← vO_cells ea]
 clear T ea hp ht
 have l0 := (HW.out.cell (p := ⟨b1, o1, none⟩) hlt).trans l9
 obtain ⟨m0, _, _, _, _, _, m6⟩ := Bx.c B0.out
 clear l9 hlt
 go_wp2_with (with_reducible refine lG (.tmp 1) B0.out ?_)
 clear l0 m0 m6
 with_reducible refine (partsCons e c r (.slice (some ⟨b1, o1, none⟩) 2 n1) _ K0.out).mono ?_
 rintro e w1 ⟨q0, q1, q2, rfl, k0, k1, k2, hb⟩
 replace B0 := kB B0 hb
 replace K0 := kH K0 hb
 replace HW := kW HW hb
 replace HT := kT HT hb
 clear hb
 replace k0 := hI k0
 replace k1 := hI k1
 replace k2 := hI k2
 have T := hI (Bx3.new w1 #[.int .i64 0, .string ⟨#[]⟩, .string ⟨#[]⟩, .string ⟨#[]⟩, .string ⟨#[]⟩, .string ⟨#[]⟩, .slice none 0 0] #[.int .i64 0, .string ⟨#[]⟩, .string ⟨#[]⟩, .string ⟨#[]⟩, .string ⟨#[]⟩, .string ⟨#[]⟩, .slice none 0 0] #[.int .i64 0, .string ⟨#[]⟩, .string ⟨#[]⟩, .string ⟨#[]⟩, .string ⟨#[]⟩, .string ⟨#[]⟩, .slice none 0 0])
 try unfold zeroC at T
 go_wp2_with (first | (with_reducible refine sB (.tmp 3) (.tmp 29) k0.out T.out.b0 ?_) | (with_reducible refine sB (.tmp 4) (.tmp 30) k1.out T.out.n1 ?_) | (with_reducible refine sB (.tmp 5) (.tmp 31) k2.out T.out.n2 ?_; have P := Pt3.new (w := w1) (o0 := e) (o1 := c) (o2 := r) (p0 := q0) (p1 := q1) (p2 := q2) (z0 := #[.int .i64 0, .string ⟨#[]⟩, .string ⟨#[]⟩, .string ⟨#[]⟩, .string ⟨#[]⟩, .string ⟨#[]⟩, .slice none 0 0]) (z1 := #[.int .i64 0, .string ⟨#[]⟩, .string ⟨#[]⟩, .string ⟨#[]⟩, .string ⟨#[]⟩, .string ⟨#[]⟩, .slice none 0 0]) (z2 := #[.int .i64 0, .string ⟨#[]⟩, .string ⟨#[]⟩, .string ⟨#[]⟩, .string ⟨#[]⟩, .string ⟨#[]⟩, .slice none 0 0]); generalize World.setRow (World.setRow (World.setRow (((w1.alloc (.cells #[.int .i64 0, .string ⟨#[]⟩, .string ⟨#[]⟩, .string ⟨#[]⟩, .string ⟨#[]⟩, .string ⟨#[]⟩, .slice none 0 0] 35)).alloc (.cells #[.int .i64 0, .string ⟨#[]⟩, .string ⟨#[]⟩, .string ⟨#[]⟩, .string ⟨#[]⟩, .string ⟨#[]⟩, .slice none 0 0] 35)).alloc (.cells #[.int .i64 0, .string ⟨#[]⟩, .string ⟨#[]⟩, .string ⟨#[]⟩, .string ⟨#[]⟩, .string ⟨#[]⟩, .slice none 0 0] 35)) (w1.heap.size) (cellsO (e) q0).toArray) (w1.heap.size + 1) (cellsO (c) q1).toArray) (w1.heap.size + 1 + 1) (cellsO (r) q2).toArray = X1 at P ⊢; have hb := P.bel; replace B0 := kB B0 hb; replace K0 := kH K0 hb; replace HW := kW HW hb; replace HT := kT HT hb; replace k0 := kH k0 hb; replace k1 := kH k1 hb; replace k2 := kH k2 hb; have D0 := hI P.b0; have D1 := hI P.b1; have D2 := hI P.b2; clear P hb T) | (with_reducible refine lG (.tmp 1) B0.out ?_) | (with_reducible refine lG (.tmp 3) D0.out ?_) | (with_reducible refine lG (.tmp 4) D1.out ?_) | (with_reducible refine lG (.tmp 5) D2.out ?_))
 clear B0 K0
 with_reducible refine (IE.out _ q0 k0.out HT.out).mono ?_
 rintro e w2 ⟨rfl, hb⟩
 replace HW := kW HW hb
 replace HT := kT HT hb
 replace k0 := kH k0 hb
 replace k1 := kH k1 hb
 replace k2 := kH k2 hb
 replace D0 := kB D0 hb
 replace D1 := kB D1 hb
 replace D2 := kB D2 hb
 clear hb
 go_wp2_with (first | (with_reducible refine lG (.tmp 3) D0.out ?_) | (with_reducible refine lG (.tmp 4) D1.out ?_) | (with_reducible refine lG (.tmp 5) D2.out ?_))
 with_reducible refine (isZeroH e q0 _ _ hz).mono ?_
 rintro e w3 ⟨rfl, hb⟩
 replace HW := kW HW hb
 replace HT := kT HT hb
 replace k0 := kH k0 hb
 replace k1 := kH k1 hb
 replace k2 := kH k2 hb
 replace D0 := kB D0 hb
 replace D1 := kB D1 hb
 replace D2 := kB D2 hb
 clear hb
 go_wp2_with (first | (with_reducible refine lG (.tmp 3) D0.out ?_) | (with_reducible refine lG (.tmp 4) D1.out ?_) | (with_reducible refine lG (.tmp 5) D2.out ?_))
 with_reducible refine (HP.out _ q1 k1.out).mono ?_
 rintro e w4 ⟨rfl, hb⟩
 replace HW := kW HW hb
 replace HT := kT HT hb
 replace k0 := kH k0 hb
 replace k1 := kH k1 hb
 replace k2 := kH k2 hb
 replace D0 := kB D0 hb
 replace D1 := kB D1 hb
 replace D2 := kB D2 hb
 clear hb
 go_wp2_with (first | (with_reducible refine lG (.tmp 3) D0.out ?_) | (with_reducible refine lG (.tmp 4) D1.out ?_) | (with_reducible refine lG (.tmp 5) D2.out ?_))
 with_reducible refine (IR.out _ q2 k2.out HT.out).mono ?_
 rintro e w5 ⟨rfl, hb⟩
 replace HW := kW HW hb
 replace HT := kT HT hb
 replace k0 := kH k0 hb
 replace k1 := kH k1 hb
 replace k2 := kH k2 hb
 replace D0 := kB D0 hb
 replace D1 := kB D1 hb
 replace D2 := kB D2 hb
 clear hb
 go_wp2_with (first | (with_reducible refine lG (.tmp 3) D0.out ?_) | (with_reducible refine lG (.tmp 4) D1.out ?_) | (with_reducible refine lG (.tmp 5) D2.out ?_))
 with_reducible refine (PR.out _ q2 k2.out HT.out).mono ?_
 rintro e w6 ⟨t0, t1, t2, rfl, l0, l1, l2, hb⟩
 replace HW := kW HW hb
 replace HT := kT HT hb
 replace k0 := kH k0 hb
 replace k1 := kH k1 hb
 replace k2 := kH k2 hb
 replace D0 := kB D0 hb
 replace D1 := kB D1 hb
 replace D2 := kB D2 hb
 clear hb
 replace l0 := hI l0
 replace l1 := hI l1
 replace l2 := hI l2
 have T := hI (Bx3.new w6 #[.int .i64 0, .string ⟨#[]⟩, .string ⟨#[]⟩, .string ⟨#[]⟩, .string ⟨#[]⟩, .string ⟨#[]⟩, .slice none 0 0] #[.int .i64 0, .string ⟨#[]⟩, .string ⟨#[]⟩, .string ⟨#[]⟩, .string ⟨#[]⟩, .string ⟨#[]⟩, .slice none 0 0] #[.int .i64 0, .string ⟨#[]⟩, .string ⟨#[]⟩, .string ⟨#[]⟩, .string ⟨#[]⟩, .string ⟨#[]⟩, .slice none 0 0])
 try unfold zeroC at T
 go_wp2_with (first | (with_reducible refine sB (.tmp 6) (.tmp 52) l0.out T.out.b0 ?_) | (with_reducible refine sB (.tmp 7) (.tmp 53) l1.out T.out.n1 ?_) | (with_reducible refine sB (.tmp 8) (.tmp 54) l2.out T.out.n2 ?_; have P := Pt3.new (w := w6) (o0 := x) (o1 := y) (o2 := z) (p0 := t0) (p1 := t1) (p2 := t2) (z0 := #[.int .i64 0, .string ⟨#[]⟩, .string ⟨#[]⟩, .string ⟨#[]⟩, .string ⟨#[]⟩, .string ⟨#[]⟩, .slice none 0 0]) (z1 := #[.int .i64 0, .string ⟨#[]⟩, .string ⟨#[]⟩, .string ⟨#[]⟩, .string ⟨#[]⟩, .string ⟨#[]⟩, .slice none 0 0]) (z2 := #[.int .i64 0, .string ⟨#[]⟩, .string ⟨#[]⟩, .string ⟨#[]⟩, .string ⟨#[]⟩, .string ⟨#[]⟩, .slice none 0 0]); generalize World.setRow (World.setRow (World.setRow (((w6.alloc (.cells #[.int .i64 0, .string ⟨#[]⟩, .string ⟨#[]⟩, .string ⟨#[]⟩, .string ⟨#[]⟩, .string ⟨#[]⟩, .slice none 0 0] 35)).alloc (.cells #[.int .i64 0, .string ⟨#[]⟩, .string ⟨#[]⟩, .string ⟨#[]⟩, .string ⟨#[]⟩, .string ⟨#[]⟩, .slice none 0 0] 35)).alloc (.cells #[.int .i64 0, .string ⟨#[]⟩, .string ⟨#[]⟩, .string ⟨#[]⟩, .string ⟨#[]⟩, .string ⟨#[]⟩, .slice none 0 0] 35)) (w6.heap.size) (cellsO (x) t0).toArray) (w6.heap.size + 1) (cellsO (y) t1).toArray) (w6.heap.size + 1 + 1) (cellsO (z) t2).toArray = X6 at P ⊢; have hb := P.bel; replace HW := kW HW hb; replace HT := kT HT hb; replace k0 := kH k0 hb; replace k1 := kH k1 hb; replace k2 := kH k2 hb; replace D0 := kB D0 hb; replace D1 := kB D1 hb; replace D2 := kB D2 hb; replace l0 := kH l0 hb; replace l1 := kH l1 hb; replace l2 := kH l2 hb; have E0 := hI P.b0; have E1 := hI P.b1; have E2 := hI P.b2; clear P hb T) | (with_reducible refine lG (.tmp 3) D0.out ?_) | (with_reducible refine lG (.tmp 4) D1.out ?_) | (with_reducible refine lG (.tmp 5) D2.out ?_) | (with_reducible refine lG (.tmp 6) E0.out ?_) | (with_reducible refine lG (.tmp 7) E1.out ?_) | (with_reducible refine lG (.tmp 8) E2.out ?_))
 with_reducible refine (CM.out _ t0 q0 l0.out k0.out HT.out).mono ?_
 rintro e w7 ⟨rfl, hb⟩
 replace HW := kW HW hb
 replace HT := kT HT hb
 replace k0 := kH k0 hb
 replace k1 := kH k1 hb
 replace k2 := kH k2 hb
 replace D0 := kB D0 hb
 replace D1 := kB D1 hb
 replace D2 := kB D2 hb
 replace l0 := kH l0 hb
 replace l1 := kH l1 hb
 replace l2 := kH l2 hb
 replace E0 := hI (E0.out.keep hb)
 replace E1 := hI (E1.out.keep hb)
 replace E2 := hI (E2.out.keep hb)
 clear hb
 go_wp2_with (first | (with_reducible refine lG (.tmp 3) D0.out ?_) | (with_reducible refine lG (.tmp 4) D1.out ?_) | (with_reducible refine lG (.tmp 5) D2.out ?_) | (with_reducible refine lG (.tmp 6) E0.out ?_) | (with_reducible refine lG (.tmp 7) E1.out ?_) | (with_reducible refine lG (.tmp 8) E2.out ?_))
 go_ret
 exact ⟨rfl, HW.out⟩
theorem posB_nat : ∀ (c : Ob), c.posB = true ↔ ∃ n, c.nat = some n ∧ n ≠ 0
 | .num q => by
  simp only [Ob.posB, Ob.nat, Bool.and_eq_true, decide_eq_true_iff]
  constructor
  · rintro ⟨h1, h2⟩
    exact ⟨q.num.toNat, by rw [if_pos ⟨h1, by omega⟩], by omega⟩
  · rintro ⟨n, h1, h2⟩
    by_cases h : q.den = 1 ∧ 0 ≤ q.num
    · rw [if_pos h] at h1
      injection h1 with h1
      exact ⟨h.1, by omega⟩
    · rw [if_neg h] at h1; cases h1
 | .str s => by simp [Ob.posB, Ob.nat]
 | .sym x y => by simp [Ob.posB, Ob.nat]
 | .cons a d => by simp [Ob.posB, Ob.nat]
def ccOf : Option On → Option Nat → Option On → Option On
 | some e', some n, some r' => if e' ≠ .fin 0 ∧ n ≠ 0 ∧ cmpE r'.exp e' < 0 then some (.pw e' n r') else none
 | _, _, _ => none
theorem ordOf_cc (e c r : Ob) : ordOf (.cons (.cons e c) r) = ccOf (ordOf e) c.nat (ordOf r) := by
 conv => lhs; unfold ordOf
 cases ordOf e <;> cases c.nat <;> cases ordOf r <;> rfl
theorem Hd.pair {w : World} {o : Ob} {p : Value} (h : Hd w o p) : Pair w (Has w) o p := h
theorem On.bd_coef' {a : On} (h : a.ob.bd 90) : Bd 90 (a.coef : Rat) := by
 cases a with
 | fin n => exact h
 | pw e c r => exact h.1.2
theorem partsE (a : On) (p : Value) (w : World) (h : Hd w a.ob p) (ht : Tab w) : Calls Tryz.prog 55 #[vO a.ob p] w (RetP w a.exp.ob (.num (a.coef : Rat)) a.rest.ob) := by
 cases a with
 | fin n => exact partsFin (n : Rat) p w h ht
 | pw e c r => exact partsCons e.ob (.num (c : Rat)) r.ob p w h
theorem On.exp_bd {a : On} {k : Nat} (hk : 0 < k) (h : a.ob.bd k) : a.exp.ob.bd k := by
 cases a with
 | fin n => exact bd_int (n := 0) (Nat.pow_pos (by decide)) hk
 | pw e c r => exact h.1.1
theorem isOrdinalP : ∀ (o : Ob) (p : Value) (w : World), o.bd 90 → Hd w o p → Tab w → Calls Tryz.prog 53 #[vO o p] w (RetB w (ordOf o).isSome)
 | .num q, p, w, hb, hp, ht => isOrdNum q p w hb hp
 | .str s, p, w, hb, hp, ht => by
  obtain rfl := hp.flat rfl
  exact isOrdFlat 3 _ _ _ _ _ (.str s) _ w rfl (by decide) rfl hp
 | .sym x y, p, w, hb, hp, ht => by
  obtain rfl := hp.flat rfl
  exact isOrdFlat 2 _ _ _ _ _ (.sym x y) _ w rfl (by decide) rfl hp
 | .cons (.num q) d, p, w, hb, hp, ht => isOrdCar (.num q) d p w rfl hp
 | .cons (.str s) d, p, w, hb, hp, ht => isOrdCar (.str s) d p w rfl hp
 | .cons (.sym x y) d, p, w, hb, hp, ht => isOrdCar (.sym x y) d p w rfl hp
 | .cons (.cons e c) r, p, w, hb, hp, ht => by
  have iE := fun X q (h : Hd X e q) (hT : Tab X) => isOrdinalP e q X hb.1.1 h hT
  have iR := fun X q (h : Hd X r q) (hT : Tab X) => isOrdinalP r q X hb.2 h hT
  rw [ordOf_cc]
  cases he : ordOf e with
  | none =>
   rw [he] at iE
   exact isOrd1 e c r _ p w hp ht hb.1.2 iE iR
  | some e' =>
   rw [he] at iE
   obtain ⟨nfe, ee⟩ := ordOf_some he
   have hz : e.numIs 0 = decide (e' = .fin 0) := by rw [ee]; exact On.numIs e' 0
   by_cases h0 : e' = .fin 0
   · rw [decide_eq_true h0] at hz
     have : (ccOf (some e') c.nat (ordOf r)).isSome = false := by
      cases c.nat <;> cases ordOf r <;> simp [ccOf, h0]
     rw [this]
     exact isOrd2 e c r _ p w hp ht hb.1.2 iE iR hz
   · rw [decide_eq_false h0] at hz
     cases hpos : c.posB with
     | false =>
      have : (ccOf (some e') c.nat (ordOf r)).isSome = false := by
       cases hn : c.nat with
       | none => rfl
       | some n =>
        have hn0 : n = 0 := by
         rcases Nat.eq_zero_or_pos n with h | h
         · exact h
         · have := (posB_nat c).2 ⟨n, hn, by omega⟩
           rw [hpos] at this; cases this
        cases ordOf r <;> simp [ccOf, hn0]
      rw [this]
      exact isOrd3 e c r _ p w hp ht hb.1.2 iE iR hz hpos
     | true =>
      obtain ⟨n, hn, hn0⟩ := (posB_nat c).1 hpos
      cases hr : ordOf r with
      | none =>
       rw [hr] at iR
       rw [hn]
       exact isOrd4 e c r p w hp ht hb.1.2 iE iR hz hpos
      | some r' =>
       rw [hr] at iR
       obtain ⟨nfr, er⟩ := ordOf_some hr
       have : (ccOf (some e') c.nat (some r')).isSome = decide (cmpE r'.exp e' < 0) := by
        rw [hn]
        show (if e' ≠ .fin 0 ∧ n ≠ 0 ∧ cmpE r'.exp e' < 0 then some (On.pw e' n r') else none).isSome = _
        by_cases hk : cmpE r'.exp e' < 0
        · rw [if_pos ⟨h0, hn0, hk⟩, decide_eq_true hk]; rfl
        · rw [if_neg (fun h => hk h.2.2), decide_eq_false hk]; rfl
       rw [this]
       exact isOrd5 e c r p w hp ht hb.1.2 iE iR hz hpos r'.exp.ob (.num (r'.coef : Rat)) r'.rest.ob (cmpE r'.exp e')
        (fun X q h hT => by rw [er] at h ⊢; exact partsE r' q X h hT)
        (fun X q t h h' hT => by
         rw [ee] at h' ⊢
         exact compareE r'.exp e' q t X (On.exp_bd (by decide) (by rw [← er]; exact hb.2)) (by rw [← ee]; exact hb.1.1) h h' hT)
theorem validH (o : Ob) (p : Value) (w : World) (hb : o.bd 90) (hn : o.nodes ≤ 3000) (hp : Hd w o p) (ht : Tab w) :
 Calls Tryz.prog 29 #[vO o p] w (RetB w (ordOf o).isSome) := by
 have HB := hI hb
 have HN := hI hn
 clear hb hn
 obtain ⟨a0, a1, a2, a3, a4, a5, ea⟩ := cells7 (o) p
 have T := Bx1.new w #[a0, a1, a2, a3, a4, a5, p]
 rw [vO_cells ea]
 go_enter Tryz.func29, Tryz.ntmps29
 go_wp2_with fail
 generalize w.alloc (.cells #[a0, a1, a2, a3, a4, a5, p] 35) = W at T ⊢
 have B0 : Hid (Bx W (w.heap.size) (cellsO (o) p).toArray) := by rw [ea]; exact T.b0
 have K0 := hI (hp.below T.bel)
 have HW := hI T.bel
 have HT := hI (ht.below T.bel)
 try rw [← vO_cells ea]
 clear T ea hp ht
 with_reducible refine (validP o p _ (Has _) HB.out HN.out (In.has _) K0.out.pair).mono ?_
 rintro e w1 ⟨rfl, hb⟩
 replace B0 := kB B0 hb
 replace K0 := kH K0 hb
 replace HW := kW HW hb
 replace HT := kT HT hb
 clear hb
 go_wp2_with (with_reducible refine lG (.tmp 1) B0.out ?_)
 with_reducible refine (isOrdinalP o p _ HB.out K0.out HT.out).mono ?_
 rintro e w2 ⟨rfl, hb⟩
 replace B0 := kB B0 hb
 replace K0 := kH K0 hb
 replace HW := kW HW hb
 replace HT := kT HT hb
 clear hb
 go_wp2_with (with_reducible refine lG (.tmp 1) B0.out ?_)
 go_ret
 exact ⟨rfl, HW.out⟩
def RetOB (w : World) (m : Option Ob) (e : Ending) (w' : World) : Prop := match m with
 | some o => RetHB w o true e w'
 | none => e = .returned (.tuple #[.agg zeroC, .bool false]) ∧ Below w.heap.size w w'
theorem storeZ {ops : Array Oper} {rest : List Oper} {o : Oper} {a : Act} {w : World} {Q : Exit → Act → World → Prop} {g : Nat} {x0 x1 x2 x3 x4 x5 x6 : Value} (x y : Operand) (ho : o.op = .store 35 x y) (hgd : o.guard = none)
 (hx : a.eval x = .pointer (some ⟨g, 0, none⟩)) (hy : a.eval y = .agg zeroC) (hg : Bx w g #[x0, x1, x2, x3, x4, x5, x6])
 (h : wpList Tryz.prog ops Q rest (a.put o.dst undef) (w.setRow g zeroC)) : wpList Tryz.prog ops Q (o :: rest) a w :=
 storeO hgd x y ho g _ hx hy _ _ hg rfl rfl (by simp [zeroC, Value.oneCell']) h
theorem retOBs {fn : Func} {q r : Tmp} {w0 w : World} {tmps : Array Value} {g : Nat} {x : Array Value} (h : fn.results = #[.cell q 35, .tmp r]) (hq : tmps.getD q undef = .pointer (some ⟨g, 0, none⟩)) (hr : tmps.getD r undef = .bool false)
 (hg : Bx w g x) (hlt : w0.heap.size ≤ g) (hb : Below w0.heap.size w0 w) : bodyPost Tryz.prog fn (RetOB w0 none) Exit.ret ⟨tmps, []⟩ (w.setRow g zeroC) :=
 bodyPost_ret (results_cs h tmps _ g _ hq hg.set rfl) rfl ⟨by rw [hr], below_setRowO hb hlt _⟩
theorem retHBs {fn : Func} {q r : Tmp} {w0 w : World} {tmps : Array Value} {g : Nat} {o : Ob} {p : Value} {b : Bool} {x : Array Value} (h : fn.results = #[.cell q 35, .tmp r]) (hq : tmps.getD q undef = .pointer (some ⟨g, 0, none⟩)) (hr : tmps.getD r undef = .bool b)
 (hg : Bx w g x) (hx : x.size = 7) (hp : Hd w o p) (hlt : w0.heap.size ≤ g) (hb : Below w0.heap.size w0 w) : bodyPost Tryz.prog fn (RetHB w0 o b) Exit.ret ⟨tmps, []⟩ (w.setRow g (cellsO o p).toArray) :=
 bodyPost_ret (results_cs h tmps _ g _ hq hg.set (by rw [List.size_toArray, cellsO_length])) rfl ⟨p, by rw [hr]; rfl, hp.box hg hx _, below_setRowO hb hlt _⟩
structure Pt1 (w X : World) (o : Ob) (p : Value) : Prop where
 bel : Below w.heap.size w X
 b0 : Bx X w.heap.size (cellsO o p).toArray
theorem Pt1.new {w : World} {o : Ob} {p : Value} {z : Array Value} : Pt1 w (World.setRow (w.alloc (.cells z 35)) w.heap.size (cellsO o p).toArray) o p := by
 have T := Bx1.new w z
 exact ⟨below_setRowO T.bel (Nat.le_refl _) _, T.b0.set⟩
theorem power_true (e c r : Ob) (pe pc pr : Value) (w : World) (he : Hd w e pe) (hc : Hd w c pc) (hr : Hd w r pr) (ht : Tab w)
 (hv : ∀ X q, Hd X (.cons (.cons e c) r) q → Tab X → Calls Tryz.prog 29 #[vO (.cons (.cons e c) r) q] X (RetB X true)) :
 Calls Tryz.prog 12 #[vO e pe, vO c pc, vO r pr] w (RetHB w (.cons (.cons e c) r) true) := by
 have HV := hI hv
 clear hv
 obtain ⟨a0, a1, a2, a3, a4, a5, ea⟩ := cells7 (e) pe
 obtain ⟨b0, b1, b2, b3, b4, b5, eb⟩ := cells7 (c) pc
 obtain ⟨c0, c1, c2, c3, c4, c5, ec⟩ := cells7 (r) pr
 have T := Bx4.new w #[a0, a1, a2, a3, a4, a5, pe] #[b0, b1, b2, b3, b4, b5, pc] #[c0, c1, c2, c3, c4, c5, pr] #[.int .i64 0, .string ⟨#[]⟩, .string ⟨#[]⟩, .string ⟨#[]⟩, .string ⟨#[]⟩, .string ⟨#[]⟩, .slice none 0 0]
 rw [vO_cells ea, vO_cells eb, vO_cells ec]
 go_enter Tryz.func12, Tryz.ntmps12
 go_wp2_with fail
 generalize (((w.alloc (.cells #[a0, a1, a2, a3, a4, a5, pe] 35)).alloc (.cells #[b0, b1, b2, b3, b4, b5, pc] 35)).alloc (.cells #[c0, c1, c2, c3, c4, c5, pr] 35)).alloc (.cells #[.int .i64 0, .string ⟨#[]⟩, .string ⟨#[]⟩, .string ⟨#[]⟩, .string ⟨#[]⟩, .string ⟨#[]⟩, .slice none 0 0] 35) = W at T ⊢
 have B0 : Hid (Bx W (w.heap.size) (cellsO (e) pe).toArray) := by rw [ea]; exact T.b0
 have K0 := hI (he.below T.bel)
 have B1 : Hid (Bx W (w.heap.size + 1) (cellsO (c) pc).toArray) := by rw [eb]; exact T.b1
 have K1 := hI (hc.below T.bel)
 have B2 : Hid (Bx W (w.heap.size + 1 + 1) (cellsO (r) pr).toArray) := by rw [ec]; exact T.b2
 have K2 := hI (hr.below T.bel)
 have R0 := hI T.b3
 have HW := hI T.bel
 have HT := hI (ht.below T.bel)
 try rw [← vO_cells ea]
 try rw [← vO_cells eb]
 try rw [← vO_cells ec]
 clear T ea eb ec he hc hr ht
 with_reducible refine (powerP e c r pe pc pr _ K0.out K1.out K2.out).mono ?_
 rintro e w1 ⟨q, rfl, k, hb⟩
 replace B0 := kB B0 hb
 replace K0 := kH K0 hb
 replace B1 := kB B1 hb
 replace K1 := kH K1 hb
 replace B2 := kB B2 hb
 replace K2 := kH K2 hb
 replace R0 := kB R0 hb
 replace HW := kW HW hb
 replace HT := kT HT hb
 clear hb
 replace k := hI k
 have T := hI (Bx1.new w1 #[.int .i64 0, .string ⟨#[]⟩, .string ⟨#[]⟩, .string ⟨#[]⟩, .string ⟨#[]⟩, .string ⟨#[]⟩, .slice none 0 0])
 go_wp2_with (first | (with_reducible refine sB (.tmp 8) (.tmp 12) k.out T.out.b0 ?_; have P := Pt1.new (w := w1) (o := .cons (.cons e c) r) (p := q) (z := #[.int .i64 0, .string ⟨#[]⟩, .string ⟨#[]⟩, .string ⟨#[]⟩, .string ⟨#[]⟩, .string ⟨#[]⟩, .slice none 0 0]); generalize World.setRow (w1.alloc (.cells #[.int .i64 0, .string ⟨#[]⟩, .string ⟨#[]⟩, .string ⟨#[]⟩, .string ⟨#[]⟩, .string ⟨#[]⟩, .slice none 0 0] 35)) w1.heap.size (cellsO (.cons (.cons e c) r) q).toArray = X1 at P ⊢; have hb := P.bel; replace B0 := kB B0 hb; replace K0 := kH K0 hb; replace B1 := kB B1 hb; replace K1 := kH K1 hb; replace B2 := kB B2 hb; replace K2 := kH K2 hb; replace R0 := kB R0 hb; replace HW := kW HW hb; replace HT := kT HT hb; replace k := kH k hb; have D := hI P.b0; clear P hb T) | (with_reducible refine lG (.tmp 3) B0.out ?_) | (with_reducible refine lG (.tmp 4) B1.out ?_) | (with_reducible refine lG (.tmp 5) B2.out ?_) | (with_reducible refine lG (.tmp 8) D.out ?_))
 with_reducible refine (HV.out _ q k.out HT.out).mono ?_
 rintro e w2 ⟨rfl, hb⟩
 replace B0 := kB B0 hb
 replace K0 := kH K0 hb
 replace B1 := kB B1 hb
 replace K1 := kH K1 hb
 replace B2 := kB B2 hb
 replace K2 := kH K2 hb
 replace R0 := kB R0 hb
 replace HW := kW HW hb
 replace HT := kT HT hb
 replace k := kH k hb
 replace D := kB D hb
 clear hb
 go_wp2_with (first | (with_reducible refine sB (.tmp 6) (.tmp 17) k.out R0.out ?_) | (with_reducible refine lG (.tmp 3) B0.out ?_) | (with_reducible refine lG (.tmp 4) B1.out ?_) | (with_reducible refine lG (.tmp 5) B2.out ?_) | (with_reducible refine lG (.tmp 8) D.out ?_))
 exact retHBs rfl rfl rfl R0.out rfl k.out (by omega) HW.out
theorem power_false (e c r : Ob) (pe pc pr : Value) (w : World) (he : Hd w e pe) (hc : Hd w c pc) (hr : Hd w r pr) (ht : Tab w)
 (hv : ∀ X q, Hd X (.cons (.cons e c) r) q → Tab X → Calls Tryz.prog 29 #[vO (.cons (.cons e c) r) q] X (RetB X false)) :
 Calls Tryz.prog 12 #[vO e pe, vO c pc, vO r pr] w (RetOB w none) := by
 have HV := hI hv
 clear hv
 obtain ⟨a0, a1, a2, a3, a4, a5, ea⟩ := cells7 (e) pe
 obtain ⟨b0, b1, b2, b3, b4, b5, eb⟩ := cells7 (c) pc
 obtain ⟨c0, c1, c2, c3, c4, c5, ec⟩ := cells7 (r) pr
 have T := Bx4.new w #[a0, a1, a2, a3, a4, a5, pe] #[b0, b1, b2, b3, b4, b5, pc] #[c0, c1, c2, c3, c4, c5, pr] #[.int .i64 0, .string ⟨#[]⟩, .string ⟨#[]⟩, .string ⟨#[]⟩, .string ⟨#[]⟩, .string ⟨#[]⟩, .slice none 0 0]
 rw [vO_cells ea, vO_cells eb, vO_cells ec]
 go_enter Tryz.func12, Tryz.ntmps12
 go_wp2_with fail
 generalize (((w.alloc (.cells #[a0, a1, a2, a3, a4, a5, pe] 35)).alloc (.cells #[b0, b1, b2, b3, b4, b5, pc] 35)).alloc (.cells #[c0, c1, c2, c3, c4, c5, pr] 35)).alloc (.cells #[.int .i64 0, .string ⟨#[]⟩, .string ⟨#[]⟩, .string ⟨#[]⟩, .string ⟨#[]⟩, .string ⟨#[]⟩, .slice none 0 0] 35) = W at T ⊢
 have B0 : Hid (Bx W (w.heap.size) (cellsO (e) pe).toArray) := by rw [ea]; exact T.b0
 have K0 := hI (he.below T.bel)
 have B1 : Hid (Bx W (w.heap.size + 1) (cellsO (c) pc).toArray) := by rw [eb]; exact T.b1
 have K1 := hI (hc.below T.bel)
 have B2 : Hid (Bx W (w.heap.size + 1 + 1) (cellsO (r) pr).toArray) := by rw [ec]; exact T.b2
 have K2 := hI (hr.below T.bel)
 have R0 := hI T.b3
 have HW := hI T.bel
 have HT := hI (ht.below T.bel)
 try rw [← vO_cells ea]
 try rw [← vO_cells eb]
 try rw [← vO_cells ec]
 clear T ea eb ec he hc hr ht
 with_reducible refine (powerP e c r pe pc pr _ K0.out K1.out K2.out).mono ?_
 rintro e w1 ⟨q, rfl, k, hb⟩
 replace B0 := kB B0 hb
 replace K0 := kH K0 hb
 replace B1 := kB B1 hb
 replace K1 := kH K1 hb
 replace B2 := kB B2 hb
 replace K2 := kH K2 hb
 replace R0 := kB R0 hb
 replace HW := kW HW hb
 replace HT := kT HT hb
 clear hb
 replace k := hI k
 have T := hI (Bx1.new w1 #[.int .i64 0, .string ⟨#[]⟩, .string ⟨#[]⟩, .string ⟨#[]⟩, .string ⟨#[]⟩, .string ⟨#[]⟩, .slice none 0 0])
 go_wp2_with (first | (with_reducible refine sB (.tmp 8) (.tmp 12) k.out T.out.b0 ?_; have P := Pt1.new (w := w1) (o := .cons (.cons e c) r) (p := q) (z := #[.int .i64 0, .string ⟨#[]⟩, .string ⟨#[]⟩, .string ⟨#[]⟩, .string ⟨#[]⟩, .string ⟨#[]⟩, .slice none 0 0]); generalize World.setRow (w1.alloc (.cells #[.int .i64 0, .string ⟨#[]⟩, .string ⟨#[]⟩, .string ⟨#[]⟩, .string ⟨#[]⟩, .string ⟨#[]⟩, .slice none 0 0] 35)) w1.heap.size (cellsO (.cons (.cons e c) r) q).toArray = X1 at P ⊢; have hb := P.bel; replace B0 := kB B0 hb; replace K0 := kH K0 hb; replace B1 := kB B1 hb; replace K1 := kH K1 hb; replace B2 := kB B2 hb; replace K2 := kH K2 hb; replace R0 := kB R0 hb; replace HW := kW HW hb; replace HT := kT HT hb; replace k := kH k hb; have D := hI P.b0; clear P hb T) | (with_reducible refine lG (.tmp 3) B0.out ?_) | (with_reducible refine lG (.tmp 4) B1.out ?_) | (with_reducible refine lG (.tmp 5) B2.out ?_) | (with_reducible refine lG (.tmp 8) D.out ?_))
 with_reducible refine (HV.out _ q k.out HT.out).mono ?_
 rintro e w2 ⟨rfl, hb⟩
 replace B0 := kB B0 hb
 replace K0 := kH K0 hb
 replace B1 := kB B1 hb
 replace K1 := kH K1 hb
 replace B2 := kB B2 hb
 replace K2 := kH K2 hb
 replace R0 := kB R0 hb
 replace HW := kW HW hb
 replace HT := kT HT hb
 replace k := kH k hb
 replace D := kB D hb
 clear hb
 go_wp2_with (first | ((with_reducible refine storeZ (g := w.heap.size + 1 + 1 + 1) (.tmp 6) (.tmp 16) ?_ ?_ ?_ ?_ R0.out ?_); rfl; rfl; rfl; rfl) | (with_reducible refine lG (.tmp 3) B0.out ?_) | (with_reducible refine lG (.tmp 4) B1.out ?_) | (with_reducible refine lG (.tmp 5) B2.out ?_) | (with_reducible refine lG (.tmp 8) D.out ?_))
 exact retOBs rfl rfl rfl R0.out (by omega) HW.out
theorem powerH (e c r : Ob) (pe pc pr : Value) (w : World) (hb : Ob.bd 90 (.cons (.cons e c) r)) (hn : Ob.nodes (.cons (.cons e c) r) ≤ 3000) (he : Hd w e pe) (hc : Hd w c pc) (hr : Hd w r pr) (ht : Tab w) :
 Calls Tryz.prog 12 #[vO e pe, vO c pc, vO r pr] w (RetOB w (if (ordOf (.cons (.cons e c) r)).isSome then some (.cons (.cons e c) r) else none)) := by
 have hv := fun X q (h : Hd X (.cons (.cons e c) r) q) (hT : Tab X) => validH (.cons (.cons e c) r) q X hb hn h hT
 cases ho : (ordOf (.cons (.cons e c) r)).isSome with
 | false => rw [ho] at hv; exact power_false e c r pe pc pr w he hc hr ht hv
 | true => rw [ho] at hv; exact power_true e c r pe pc pr w he hc hr ht hv
theorem withinH (o : Ob) (p : Value) (w : World) (hb : o.bd 90) (hn : o.nodes ≤ 3000) (hp : Hd w o p) :
 Calls Tryz.prog 43 #[vO o p] w (RetHB w o true) := by
 have HB := hI hb
 have HN := hI hn
 clear hb hn
 obtain ⟨a0, a1, a2, a3, a4, a5, ea⟩ := cells7 (o) p
 have T := Bx2.new w #[a0, a1, a2, a3, a4, a5, p] #[.int .i64 0, .string ⟨#[]⟩, .string ⟨#[]⟩, .string ⟨#[]⟩, .string ⟨#[]⟩, .string ⟨#[]⟩, .slice none 0 0]
 rw [vO_cells ea]
 go_enter Tryz.func43, Tryz.ntmps43
 go_wp2_with fail
 generalize (w.alloc (.cells #[a0, a1, a2, a3, a4, a5, p] 35)).alloc (.cells #[.int .i64 0, .string ⟨#[]⟩, .string ⟨#[]⟩, .string ⟨#[]⟩, .string ⟨#[]⟩, .string ⟨#[]⟩, .slice none 0 0] 35) = W at T ⊢
 have B0 : Hid (Bx W (w.heap.size) (cellsO (o) p).toArray) := by rw [ea]; exact T.b0
 have K0 := hI (hp.below T.bel)
 have R0 := hI T.b1
 have HW := hI T.bel
 try rw [← vO_cells ea]
 clear T ea hp
 with_reducible refine (validP o p _ (Has _) HB.out HN.out (In.has _) K0.out.pair).mono ?_
 rintro e w1 ⟨rfl, hb⟩
 replace B0 := kB B0 hb
 replace K0 := kH K0 hb
 replace R0 := kB R0 hb
 replace HW := kW HW hb
 clear hb
 go_wp2_with (first | (with_reducible refine sB (.tmp 2) (.tmp 8) K0.out R0.out ?_) | (with_reducible refine lG (.tmp 1) B0.out ?_))
 exact retHBs rfl rfl rfl R0.out rfl K0.out (by omega) HW.out
theorem less1 (a b : Ob) (p p' : Value) (w : World) (y : Bool) (k : Int) (hp : Hd w a p) (hp' : Hd w b p') (ht : Tab w)
 (va : ∀ X, Hd X a p → Tab X → Calls Tryz.prog 29 #[vO a p] X (RetB X false)) (vb : ∀ X, Hd X b p' → Tab X → Calls Tryz.prog 29 #[vO b p'] X (RetB X y))
 (cm : True) :
 Calls Tryz.prog 16 #[vO a p, vO b p'] w (RetB w false) := by
 have VA := hI va
 have VB := hI vb
 have CM := hI cm
 clear va vb cm
 obtain ⟨a0, a1, a2, a3, a4, a5, ea⟩ := cells7 (a) p
 obtain ⟨b0, b1, b2, b3, b4, b5, eb⟩ := cells7 (b) p'
 have T := Bx2.new w #[a0, a1, a2, a3, a4, a5, p] #[b0, b1, b2, b3, b4, b5, p']
 rw [vO_cells ea, vO_cells eb]
 go_enter Tryz.func16, Tryz.ntmps16
 go_wp2_with fail
 generalize (w.alloc (.cells #[a0, a1, a2, a3, a4, a5, p] 35)).alloc (.cells #[b0, b1, b2, b3, b4, b5, p'] 35) = W at T ⊢
 have B0 : Hid (Bx W (w.heap.size) (cellsO (a) p).toArray) := by rw [ea]; exact T.b0
 have K0 := hI (hp.below T.bel)
 have B1 : Hid (Bx W (w.heap.size + 1) (cellsO (b) p').toArray) := by rw [eb]; exact T.b1
 have K1 := hI (hp'.below T.bel)
 have HW := hI T.bel
 have HT := hI (ht.below T.bel)
 try rw [← vO_cells ea]
 try rw [← vO_cells eb]
 clear T ea eb hp hp' ht
 with_reducible refine (VA.out _ K0.out HT.out).mono ?_
 rintro e w1 ⟨rfl, hb⟩
 replace B0 := kB B0 hb
 replace K0 := kH K0 hb
 replace B1 := kB B1 hb
 replace K1 := kH K1 hb
 replace HW := kW HW hb
 replace HT := kT HT hb
 clear hb
 go_wp2_with (first | (with_reducible refine lG (.tmp 2) B0.out ?_) | (with_reducible refine lG (.tmp 3) B1.out ?_))
 go_ret
 exact ⟨rfl, HW.out⟩
theorem less2 (a b : Ob) (p p' : Value) (w : World) (k : Int) (hp : Hd w a p) (hp' : Hd w b p') (ht : Tab w)
 (va : ∀ X, Hd X a p → Tab X → Calls Tryz.prog 29 #[vO a p] X (RetB X true)) (vb : ∀ X, Hd X b p' → Tab X → Calls Tryz.prog 29 #[vO b p'] X (RetB X false))
 (cm : True) :
 Calls Tryz.prog 16 #[vO a p, vO b p'] w (RetB w false) := by
 have VA := hI va
 have VB := hI vb
 have CM := hI cm
 clear va vb cm
 obtain ⟨a0, a1, a2, a3, a4, a5, ea⟩ := cells7 (a) p
 obtain ⟨b0, b1, b2, b3, b4, b5, eb⟩ := cells7 (b) p'
 have T := Bx2.new w #[a0, a1, a2, a3, a4, a5, p] #[b0, b1, b2, b3, b4, b5, p']
 rw [vO_cells ea, vO_cells eb]
 go_enter Tryz.func16, Tryz.ntmps16
 go_wp2_with fail
 generalize (w.alloc (.cells #[a0, a1, a2, a3, a4, a5, p] 35)).alloc (.cells #[b0, b1, b2, b3, b4, b5, p'] 35) = W at T ⊢
 have B0 : Hid (Bx W (w.heap.size) (cellsO (a) p).toArray) := by rw [ea]; exact T.b0
 have K0 := hI (hp.below T.bel)
 have B1 : Hid (Bx W (w.heap.size + 1) (cellsO (b) p').toArray) := by rw [eb]; exact T.b1
 have K1 := hI (hp'.below T.bel)
 have HW := hI T.bel
 have HT := hI (ht.below T.bel)
 try rw [← vO_cells ea]
 try rw [← vO_cells eb]
 clear T ea eb hp hp' ht
 with_reducible refine (VA.out _ K0.out HT.out).mono ?_
 rintro e w1 ⟨rfl, hb⟩
 replace B0 := kB B0 hb
 replace K0 := kH K0 hb
 replace B1 := kB B1 hb
 replace K1 := kH K1 hb
 replace HW := kW HW hb
 replace HT := kT HT hb
 clear hb
 go_wp2_with (first | (with_reducible refine lG (.tmp 2) B0.out ?_) | (with_reducible refine lG (.tmp 3) B1.out ?_))
 with_reducible refine (VB.out _ K1.out HT.out).mono ?_
 rintro e w2 ⟨rfl, hb⟩
 replace B0 := kB B0 hb
 replace K0 := kH K0 hb
 replace B1 := kB B1 hb
 replace K1 := kH K1 hb
 replace HW := kW HW hb
 replace HT := kT HT hb
 clear hb
 go_wp2_with (first | (with_reducible refine lG (.tmp 2) B0.out ?_) | (with_reducible refine lG (.tmp 3) B1.out ?_))
 go_ret
 exact ⟨rfl, HW.out⟩
theorem less3 (a b : Ob) (p p' : Value) (w : World) (k : Int) (hp : Hd w a p) (hp' : Hd w b p') (ht : Tab w)
 (va : ∀ X, Hd X a p → Tab X → Calls Tryz.prog 29 #[vO a p] X (RetB X true)) (vb : ∀ X, Hd X b p' → Tab X → Calls Tryz.prog 29 #[vO b p'] X (RetB X true))
 (cm : ∀ X, Hd X a p → Hd X b p' → Tab X → Calls Tryz.prog 46 #[vO a p, vO b p'] X (RetI X k)) :
 Calls Tryz.prog 16 #[vO a p, vO b p'] w (RetB w (decide (k < 0))) := by
 have VA := hI va
 have VB := hI vb
 have CM := hI cm
 clear va vb cm
 obtain ⟨a0, a1, a2, a3, a4, a5, ea⟩ := cells7 (a) p
 obtain ⟨b0, b1, b2, b3, b4, b5, eb⟩ := cells7 (b) p'
 have T := Bx2.new w #[a0, a1, a2, a3, a4, a5, p] #[b0, b1, b2, b3, b4, b5, p']
 rw [vO_cells ea, vO_cells eb]
 go_enter Tryz.func16, Tryz.ntmps16
 go_wp2_with fail
 generalize (w.alloc (.cells #[a0, a1, a2, a3, a4, a5, p] 35)).alloc (.cells #[b0, b1, b2, b3, b4, b5, p'] 35) = W at T ⊢
 have B0 : Hid (Bx W (w.heap.size) (cellsO (a) p).toArray) := by rw [ea]; exact T.b0
 have K0 := hI (hp.below T.bel)
 have B1 : Hid (Bx W (w.heap.size + 1) (cellsO (b) p').toArray) := by rw [eb]; exact T.b1
 have K1 := hI (hp'.below T.bel)
 have HW := hI T.bel
 have HT := hI (ht.below T.bel)
 try rw [← vO_cells ea]
 try rw [← vO_cells eb]
 clear T ea eb hp hp' ht
 with_reducible refine (VA.out _ K0.out HT.out).mono ?_
 rintro e w1 ⟨rfl, hb⟩
 replace B0 := kB B0 hb
 replace K0 := kH K0 hb
 replace B1 := kB B1 hb
 replace K1 := kH K1 hb
 replace HW := kW HW hb
 replace HT := kT HT hb
 clear hb
 go_wp2_with (first | (with_reducible refine lG (.tmp 2) B0.out ?_) | (with_reducible refine lG (.tmp 3) B1.out ?_))
 with_reducible refine (VB.out _ K1.out HT.out).mono ?_
 rintro e w2 ⟨rfl, hb⟩
 replace B0 := kB B0 hb
 replace K0 := kH K0 hb
 replace B1 := kB B1 hb
 replace K1 := kH K1 hb
 replace HW := kW HW hb
 replace HT := kT HT hb
 clear hb
 go_wp2_with (first | (with_reducible refine lG (.tmp 2) B0.out ?_) | (with_reducible refine lG (.tmp 3) B1.out ?_))
 with_reducible refine (CM.out _ K0.out K1.out HT.out).mono ?_
 rintro e w3 ⟨rfl, hb⟩
 replace B0 := kB B0 hb
 replace K0 := kH K0 hb
 replace B1 := kB B1 hb
 replace K1 := kH K1 hb
 replace HW := kW HW hb
 replace HT := kT HT hb
 clear hb
 go_wp2_with (first | (with_reducible refine lG (.tmp 2) B0.out ?_) | (with_reducible refine lG (.tmp 3) B1.out ?_))
 go_ret
 exact ⟨rfl, HW.out⟩
def lessO (a b : Ob) : Bool := match ordOf a, ordOf b with
 | some x, some y => decide (cmpE x y < 0)
 | _, _ => false
theorem lessH (a b : Ob) (p p' : Value) (w : World) (ha : a.bd 90) (hb : b.bd 90) (na : a.nodes ≤ 3000) (nb : b.nodes ≤ 3000) (hp : Hd w a p) (hp' : Hd w b p') (ht : Tab w) :
 Calls Tryz.prog 16 #[vO a p, vO b p'] w (RetB w (lessO a b)) := by
 have va := fun X (h : Hd X a p) (hT : Tab X) => validH a p X ha na h hT
 have vb := fun X (h : Hd X b p') (hT : Tab X) => validH b p' X hb nb h hT
 unfold lessO
 cases hx : ordOf a with
 | none => rw [hx] at va; exact less1 a b p p' w _ 0 hp hp' ht va vb trivial
 | some x =>
  rw [hx] at va
  cases hy : ordOf b with
  | none => rw [hy] at vb; exact less2 a b p p' w 0 hp hp' ht va vb trivial
  | some y =>
   rw [hy] at vb
   obtain ⟨_, ea⟩ := ordOf_some hx
   obtain ⟨_, eb⟩ := ordOf_some hy
   exact less3 a b p p' w _ hp hp' ht va vb (fun X h h' hT => by
    rw [ea] at h ha ⊢
    rw [eb] at h' hb ⊢
    exact compareE x y p p' X ha hb h h' hT)
end Go.Proofs.YtocbedijpomemaaGreatDoor
