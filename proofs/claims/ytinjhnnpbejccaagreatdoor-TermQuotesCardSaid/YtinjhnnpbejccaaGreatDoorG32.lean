/- TermQuotes. -/
import Derived.Test.YtinjhnnpbejccaaGreatDoorG19
import Derived.Test.YtinjhnnpbejccaaGreatDoorG31
namespace Go.Proofs.YtinjhnnpbejccaaGreatDoor
open Go Go.RowKit
set_option linter.unusedVariables false
set_option maxHeartbeats 32000000
set_option maxRecDepth 100000
theorem termQuotesW (ra : Rw) (qa0 qa1 qa2 qa3 : Value) (w : World) (hra : RawAt w (Has w) ra [qa0, qa1, qa2, qa3]) (ht : Tab w) :
 Calls Tryz.prog 10 #[.agg #[qa0, qa1, qa2, qa3]] w (RetB w true) := by
 have HRA := hI hra
 have HTB := hI ht
 have FA : Hid (∀ X, Below w.heap.size w X → Calls Tryz.prog 14 #[.agg #[qa0, qa1, qa2, qa3], .int .i64 30] X (fun e w' => e = .returned (.bool (few ra 30)) ∧ Below X.heap.size X w')) := fun X h => fewO ra [qa0, qa1, qa2, qa3] 30 X (Has w) (In.has w |>.later h.size) (HRA.out.below (In.has w) h) (by decide) (by decide)
 have KA : Hid (few ra 30 = true → ra.cnt ≤ 30 ∧ ∀ X, Below w.heap.size w X → Calls Tryz.prog 15 #[.agg #[qa0, qa1, qa2, qa3]] X (RetTP X (mtP (fun _ _ => True) ra))) := fun hf => by
  obtain ⟨hok, hcn⟩ := few_ok hf
  exact ⟨by omega, fun X h => madeT (fun _ _ => True) oMkT ra [qa0, qa1, qa2, qa3] X (Has w) (In.has w |>.later h.size) (HRA.out.below (In.has w) h) hok (HTB.out.below h)⟩
 generalize few ra 30 = fa at FA KA
 have BRX : Hid ((w.alloc (.cells #[qa0, qa1, qa2, qa3] 26)).heap[w.heap.size]? = some (.cells #[qa0, qa1, qa2, qa3] 26 (0, 0))) := heap_alloc_new w _
 have hA1 : Below w.heap.size w (w.alloc (.cells #[qa0, qa1, qa2, qa3] 26)) := below_alT w _
 have HB := hI hA1
 clear hra ht hA1 HRA
 go_enter Tryz.func10, Tryz.ntmps10
 go_upto_region 1 with fail
 generalize (w.alloc (.cells #[qa0, qa1, qa2, qa3] 26)) = W at *
 obtain ⟨j2, hj2⟩ : ∃ g, w.heap.size = g := ⟨_, rfl⟩
 rw [hj2] at BRX ⊢
 clear hj2
 go_wp2_with fail
 with_reducible refine (first8 W).mono ?_
 rintro e w1 ⟨rfl, hb⟩
 replace BRX := hI ((hb.block _ (lt_row BRX.out)).trans BRX.out)
 replace HB := hI (chain2 HB.out hb (Nat.le_refl _))
 clear hb
 have dqa0 : w1.cell? ⟨j2, 0, none⟩ = some qa0 := by rw [cell_of_row _ _ _ _ _ _ BRX.out]; rfl
 have dqa1 : w1.cell? ⟨j2, 1, none⟩ = some qa1 := by rw [cell_of_row _ _ _ _ _ _ BRX.out]; rfl
 have dqa2 : w1.cell? ⟨j2, 2, none⟩ = some qa2 := by rw [cell_of_row _ _ _ _ _ _ BRX.out]; rfl
 have dqa3 : w1.cell? ⟨j2, 3, none⟩ = some qa3 := by rw [cell_of_row _ _ _ _ _ _ BRX.out]; rfl
 go_wp2_with fail
 with_reducible refine (FA.out _ HB.out).mono ?_
 rintro e w2 ⟨rfl, hb⟩
 replace BRX := hI ((hb.block _ (lt_row BRX.out)).trans BRX.out)
 replace HB := hI (chain2 HB.out hb (Nat.le_refl _))
 clear hb
 clear FA dqa0 dqa1 dqa2 dqa3
 have dqa0 : w2.cell? ⟨j2, 0, none⟩ = some qa0 := by rw [cell_of_row _ _ _ _ _ _ BRX.out]; rfl
 have dqa1 : w2.cell? ⟨j2, 1, none⟩ = some qa1 := by rw [cell_of_row _ _ _ _ _ _ BRX.out]; rfl
 have dqa2 : w2.cell? ⟨j2, 2, none⟩ = some qa2 := by rw [cell_of_row _ _ _ _ _ _ BRX.out]; rfl
 have dqa3 : w2.cell? ⟨j2, 3, none⟩ = some qa3 := by rw [cell_of_row _ _ _ _ _ _ BRX.out]; rfl
 cases fa with
 | false =>
  go_wp2
  go_ret
  exact ⟨rfl, HB.out⟩
 | true =>
  obtain ⟨hca, hKA⟩ := KA.out (by simp)
  go_wp2_with fail
  with_reducible refine (hKA _ HB.out).mono ?_
  rintro e w3 ⟨t, ⟨cs3, rfl, h3, hb⟩, hm⟩
  replace HB := hI (chain2 HB.out hb (Nat.le_refl _))
  have htn : t.nodes ≤ 3000 := by have := mtP_nodes _ _ hm; omega
  have htd : t.dep ≤ 200 := by have := mtP_dep _ _ hm; omega
  have htb : t.bd 90 := Tm.bd_up (by decide) _ (mtP_bd _ _ hm)
  obtain ⟨hq1, hq2, hq3, hq4⟩ := mtP_q _ _ hm
  have hqb : (quO t).bd 1000 := Ob.bd_more (by decide) hq3
  have hqn : (quO t).nodes ≤ 3000 := by omega
  have O3 := hI h3.o11
  obtain ⟨x0, x1, x2, x3, x4, x5, x6, A2, c2, rfl, _, _⟩ := h3.eleven
  have hV : Below w3.heap.size w3 ((w3.alloc (.cells #[.int .i64 0, .string ⟨#[]⟩, .string ⟨#[]⟩, .int .i64 0, .string ⟨#[]⟩, .string ⟨#[]⟩, .string ⟨#[]⟩, .string ⟨#[]⟩, .string ⟨#[]⟩, .slice none 0 0, .slice none 0 0] 35)).setRow w3.heap.size #[.int .i64 t.kd, .string t.nm.1, .string t.nm.2, x0, x1, x2, x3, x4, x5, x6, .slice A2 t.args.length c2]) := below_setRowO (below_alT w3 _) (Nat.le_refl _) _
  have TN : TB (w3.alloc (.cells #[.int .i64 0, .string ⟨#[]⟩, .string ⟨#[]⟩, .int .i64 0, .string ⟨#[]⟩, .string ⟨#[]⟩, .string ⟨#[]⟩, .string ⟨#[]⟩, .string ⟨#[]⟩, .slice none 0 0, .slice none 0 0] 35)) w3.heap.size zT := TB.new w3 zT
  have B3 : Hid (TB ((w3.alloc (.cells #[.int .i64 0, .string ⟨#[]⟩, .string ⟨#[]⟩, .int .i64 0, .string ⟨#[]⟩, .string ⟨#[]⟩, .string ⟨#[]⟩, .string ⟨#[]⟩, .string ⟨#[]⟩, .slice none 0 0, .slice none 0 0] 35)).setRow w3.heap.size #[.int .i64 t.kd, .string t.nm.1, .string t.nm.2, x0, x1, x2, x3, x4, x5, x6, .slice A2 t.args.length c2]) w3.heap.size [.int .i64 t.kd, .string t.nm.1, .string t.nm.2, x0, x1, x2, x3, x4, x5, x6, .slice A2 t.args.length c2]) := setRow_heap _ _ _ _ _ _ (heap_alloc_new w3 _)
  have HT : Hid (TmAt ((w3.alloc (.cells #[.int .i64 0, .string ⟨#[]⟩, .string ⟨#[]⟩, .int .i64 0, .string ⟨#[]⟩, .string ⟨#[]⟩, .string ⟨#[]⟩, .string ⟨#[]⟩, .string ⟨#[]⟩, .slice none 0 0, .slice none 0 0] 35)).setRow w3.heap.size #[.int .i64 t.kd, .string t.nm.1, .string t.nm.2, x0, x1, x2, x3, x4, x5, x6, .slice A2 t.args.length c2]) (Has ((w3.alloc (.cells #[.int .i64 0, .string ⟨#[]⟩, .string ⟨#[]⟩, .int .i64 0, .string ⟨#[]⟩, .string ⟨#[]⟩, .string ⟨#[]⟩, .string ⟨#[]⟩, .string ⟨#[]⟩, .slice none 0 0, .slice none 0 0] 35)).setRow w3.heap.size #[.int .i64 t.kd, .string t.nm.1, .string t.nm.2, x0, x1, x2, x3, x4, x5, x6, .slice A2 t.args.length c2])) t [.int .i64 t.kd, .string t.nm.1, .string t.nm.2, x0, x1, x2, x3, x4, x5, x6, .slice A2 t.args.length c2]) := ((h3.more (fun b hb0 => by
   rcases hb0 with h | ⟨_, h⟩
   · exact h.elim
   · exact h) : TmAt w3 (Has w3) t [.int .i64 t.kd, .string t.nm.1, .string t.nm.2, x0, x1, x2, x3, x4, x5, x6, .slice A2 t.args.length c2])).has9 hV
  replace HB := hI (chain2 HB.out hV (Nat.le_refl _))
  clear hb hV hm hq3 hq4 h3 KA hKA hca BRX dqa0 dqa1 dqa2 dqa3
  unfold vTm
  go_wp2_with (first | ((with_reducible refine storeTb (cs := [.int .i64 t.kd, .string t.nm.1, .string t.nm.2, x0, x1, x2, x3, x4, x5, x6, .slice A2 t.args.length c2]) (.tmp 3) (.tmp 13) ?_ ?_ ?_ ?_ (hI TN).out ?_ ?_ ?_ ?_); rfl; rfl; rfl; rfl; rfl; exact O3.out.1; exact O3.out.2) | ((with_reducible refine loadTb (cs := [.int .i64 t.kd, .string t.nm.1, .string t.nm.2, x0, x1, x2, x3, x4, x5, x6, .slice A2 t.args.length c2]) (.tmp 3) ?_ ?_ ?_ B3.out ?_ ?_); rfl; rfl; rfl; rfl))
  clear TN
  generalize ((w3.alloc (.cells #[.int .i64 0, .string ⟨#[]⟩, .string ⟨#[]⟩, .int .i64 0, .string ⟨#[]⟩, .string ⟨#[]⟩, .string ⟨#[]⟩, .string ⟨#[]⟩, .string ⟨#[]⟩, .slice none 0 0, .slice none 0 0] 35)).setRow w3.heap.size #[.int .i64 t.kd, .string t.nm.1, .string t.nm.2, x0, x1, x2, x3, x4, x5, x6, .slice A2 t.args.length c2]) = Y3 at *
  generalize w3.heap.size = g3 at *
  obtain ⟨OO, hOO⟩ : ∃ OO, quO t = OO := ⟨_, rfl⟩
  have QC : Calls Tryz.prog 51 #[.agg #[.int .i64 t.kd, .string t.nm.1, .string t.nm.2, x0, x1, x2, x3, x4, x5, x6, .slice A2 t.args.length c2]] Y3 (RetO Y3 (Has Y3) OO) := by
   have h := quoteTop t [.int .i64 t.kd, .string t.nm.1, .string t.nm.2, x0, x1, x2, x3, x4, x5, x6, .slice A2 t.args.length c2] Y3 (Has Y3) (In.has Y3) HT.out htn
   rw [hOO] at h
   exact h
  refine QC.mono ?_
  rintro e w4 ⟨p, rfl, hp, hb⟩
  have RN : (w4.alloc (.cells #[.int .i64 0, .string ⟨#[]⟩, .string ⟨#[]⟩, .string ⟨#[]⟩, .string ⟨#[]⟩, .string ⟨#[]⟩, .slice none 0 0] 33)).heap[w4.heap.size]? = some (.cells #[.int .i64 0, .string ⟨#[]⟩, .string ⟨#[]⟩, .string ⟨#[]⟩, .string ⟨#[]⟩, .string ⟨#[]⟩, .slice none 0 0] 33 (0, 0)) := heap_alloc_new w4 _
  have hV : Below w4.heap.size w4 ((w4.alloc (.cells #[.int .i64 0, .string ⟨#[]⟩, .string ⟨#[]⟩, .string ⟨#[]⟩, .string ⟨#[]⟩, .string ⟨#[]⟩, .slice none 0 0] 33)).setRow w4.heap.size (cellsO OO p).toArray) := below_setRowO (below_alT w4 _) (Nat.le_refl _) _
  have B4 : Hid (Bx ((w4.alloc (.cells #[.int .i64 0, .string ⟨#[]⟩, .string ⟨#[]⟩, .string ⟨#[]⟩, .string ⟨#[]⟩, .string ⟨#[]⟩, .slice none 0 0] 33)).setRow w4.heap.size (cellsO OO p).toArray) w4.heap.size (cellsO OO p).toArray) := setRow_heap _ _ _ _ _ _ (heap_alloc_new w4 _)
  have HP4 : Hid (Pair w4 (Upto Y3 w4 (Has Y3)) OO p) := hp
  have hpw : Pair w4 (Has w4) OO p := hp.more fun b hb0 => by
   rcases hb0 with h | h
   · exact Nat.lt_of_lt_of_le h hb.size
   · exact h.2
  have HPV : Hid (Pair ((w4.alloc (.cells #[.int .i64 0, .string ⟨#[]⟩, .string ⟨#[]⟩, .string ⟨#[]⟩, .string ⟨#[]⟩, .string ⟨#[]⟩, .slice none 0 0] 33)).setRow w4.heap.size (cellsO OO p).toArray) (Has ((w4.alloc (.cells #[.int .i64 0, .string ⟨#[]⟩, .string ⟨#[]⟩, .string ⟨#[]⟩, .string ⟨#[]⟩, .string ⟨#[]⟩, .slice none 0 0] 33)).setRow w4.heap.size (cellsO OO p).toArray)) OO p) := (hpw.below (In.has w4) hV).more fun b h => Nat.lt_of_lt_of_le h hV.size
  replace B3 := hI ((B3.out.keep hb).keep hV)
  replace HT := hI ((HT.out.has9 hb).has9 hV)
  replace HB := hI (chain2 (chain2 HB.out hb (Nat.le_refl _)) hV (Nat.le_refl _))
  clear hb hV hp hpw QC
  go_wp2_with (first | ((with_reducible refine storeV rfl (.tmp 4) (.tmp 15) rfl _ OO p rfl rfl HP4.out _ _ RN rfl ?_)) | (with_reducible refine lG (.tmp 4) B4.out ?_))
  clear RN HP4
  generalize ((w4.alloc (.cells #[.int .i64 0, .string ⟨#[]⟩, .string ⟨#[]⟩, .string ⟨#[]⟩, .string ⟨#[]⟩, .string ⟨#[]⟩, .slice none 0 0] 33)).setRow w4.heap.size (cellsO OO p).toArray) = Y4 at *
  generalize w4.heap.size = g4 at *
  have UC : Calls Tryz.prog 52 #[vO OO p] Y4 (RetTB Y4 (Has Y4) t true) := by
   have h := unquoteTop t p Y4 (Has Y4) (In.has Y4) (by rw [hOO]; exact HPV.out) hq1 hq2 htn htd htb hqb hqn
   rw [hOO] at h
   exact h
  refine UC.mono ?_
  rintro e w5 ⟨cs5, rfl, h5, hb⟩
  have O5 := hI h5.o11
  obtain ⟨u0, u1, u2, u3, u4, u5, u6, A3, c3, rfl, _, _⟩ := h5.eleven
  have hV : Below w5.heap.size w5 ((w5.alloc (.cells #[.int .i64 0, .string ⟨#[]⟩, .string ⟨#[]⟩, .int .i64 0, .string ⟨#[]⟩, .string ⟨#[]⟩, .string ⟨#[]⟩, .string ⟨#[]⟩, .string ⟨#[]⟩, .slice none 0 0, .slice none 0 0] 35)).setRow w5.heap.size #[.int .i64 t.kd, .string t.nm.1, .string t.nm.2, u0, u1, u2, u3, u4, u5, u6, .slice A3 t.args.length c3]) := below_setRowO (below_alT w5 _) (Nat.le_refl _) _
  have TN : TB (w5.alloc (.cells #[.int .i64 0, .string ⟨#[]⟩, .string ⟨#[]⟩, .int .i64 0, .string ⟨#[]⟩, .string ⟨#[]⟩, .string ⟨#[]⟩, .string ⟨#[]⟩, .string ⟨#[]⟩, .slice none 0 0, .slice none 0 0] 35)) w5.heap.size zT := TB.new w5 zT
  have B5 : Hid (TB ((w5.alloc (.cells #[.int .i64 0, .string ⟨#[]⟩, .string ⟨#[]⟩, .int .i64 0, .string ⟨#[]⟩, .string ⟨#[]⟩, .string ⟨#[]⟩, .string ⟨#[]⟩, .string ⟨#[]⟩, .slice none 0 0, .slice none 0 0] 35)).setRow w5.heap.size #[.int .i64 t.kd, .string t.nm.1, .string t.nm.2, u0, u1, u2, u3, u4, u5, u6, .slice A3 t.args.length c3]) w5.heap.size [.int .i64 t.kd, .string t.nm.1, .string t.nm.2, u0, u1, u2, u3, u4, u5, u6, .slice A3 t.args.length c3]) := setRow_heap _ _ _ _ _ _ (heap_alloc_new w5 _)
  have HT5 : Hid (TmAt ((w5.alloc (.cells #[.int .i64 0, .string ⟨#[]⟩, .string ⟨#[]⟩, .int .i64 0, .string ⟨#[]⟩, .string ⟨#[]⟩, .string ⟨#[]⟩, .string ⟨#[]⟩, .string ⟨#[]⟩, .slice none 0 0, .slice none 0 0] 35)).setRow w5.heap.size #[.int .i64 t.kd, .string t.nm.1, .string t.nm.2, u0, u1, u2, u3, u4, u5, u6, .slice A3 t.args.length c3]) (Has ((w5.alloc (.cells #[.int .i64 0, .string ⟨#[]⟩, .string ⟨#[]⟩, .int .i64 0, .string ⟨#[]⟩, .string ⟨#[]⟩, .string ⟨#[]⟩, .string ⟨#[]⟩, .string ⟨#[]⟩, .slice none 0 0, .slice none 0 0] 35)).setRow w5.heap.size #[.int .i64 t.kd, .string t.nm.1, .string t.nm.2, u0, u1, u2, u3, u4, u5, u6, .slice A3 t.args.length c3])) t [.int .i64 t.kd, .string t.nm.1, .string t.nm.2, u0, u1, u2, u3, u4, u5, u6, .slice A3 t.args.length c3]) := ((h5.more (fun b hb0 => by
   rcases hb0 with h | ⟨_, h⟩
   · exact Nat.lt_of_lt_of_le h hb.size
   · exact h) : TmAt w5 (Has w5) t [.int .i64 t.kd, .string t.nm.1, .string t.nm.2, u0, u1, u2, u3, u4, u5, u6, .slice A3 t.args.length c3])).has9 hV
  replace B3 := hI ((B3.out.keep hb).keep hV)
  replace B4 := hI ((B4.out.keep hb).keep hV)
  replace HT := hI ((HT.out.has9 hb).has9 hV)
  have hbv : Below Y4.heap.size Y4 ((w5.alloc (.cells #[.int .i64 0, .string ⟨#[]⟩, .string ⟨#[]⟩, .int .i64 0, .string ⟨#[]⟩, .string ⟨#[]⟩, .string ⟨#[]⟩, .string ⟨#[]⟩, .string ⟨#[]⟩, .slice none 0 0, .slice none 0 0] 35)).setRow w5.heap.size #[.int .i64 t.kd, .string t.nm.1, .string t.nm.2, u0, u1, u2, u3, u4, u5, u6, .slice A3 t.args.length c3]) := chain2 hb hV (Nat.le_refl _)
  replace HPV : Hid (Pair ((w5.alloc (.cells #[.int .i64 0, .string ⟨#[]⟩, .string ⟨#[]⟩, .int .i64 0, .string ⟨#[]⟩, .string ⟨#[]⟩, .string ⟨#[]⟩, .string ⟨#[]⟩, .string ⟨#[]⟩, .slice none 0 0, .slice none 0 0] 35)).setRow w5.heap.size #[.int .i64 t.kd, .string t.nm.1, .string t.nm.2, u0, u1, u2, u3, u4, u5, u6, .slice A3 t.args.length c3]) (Has ((w5.alloc (.cells #[.int .i64 0, .string ⟨#[]⟩, .string ⟨#[]⟩, .int .i64 0, .string ⟨#[]⟩, .string ⟨#[]⟩, .string ⟨#[]⟩, .string ⟨#[]⟩, .string ⟨#[]⟩, .slice none 0 0, .slice none 0 0] 35)).setRow w5.heap.size #[.int .i64 t.kd, .string t.nm.1, .string t.nm.2, u0, u1, u2, u3, u4, u5, u6, .slice A3 t.args.length c3])) OO p) := (HPV.out.below (In.has Y4) hbv).more fun b h => Nat.lt_of_lt_of_le h hbv.size
  replace HB := hI (chain2 (chain2 HB.out hb (Nat.le_refl _)) hV (Nat.le_refl _))
  clear hb hV h5 hbv UC
  unfold vTm
  go_wp2_with ((with_reducible refine storeTb (cs := [.int .i64 t.kd, .string t.nm.1, .string t.nm.2, u0, u1, u2, u3, u4, u5, u6, .slice A3 t.args.length c3]) (.tmp 5) (.tmp 19) ?_ ?_ ?_ ?_ (hI TN).out ?_ ?_ ?_ ?_); rfl; rfl; rfl; rfl; rfl; exact O5.out.1; exact O5.out.2)
  clear TN
  generalize ((w5.alloc (.cells #[.int .i64 0, .string ⟨#[]⟩, .string ⟨#[]⟩, .int .i64 0, .string ⟨#[]⟩, .string ⟨#[]⟩, .string ⟨#[]⟩, .string ⟨#[]⟩, .string ⟨#[]⟩, .slice none 0 0, .slice none 0 0] 35)).setRow w5.heap.size #[.int .i64 t.kd, .string t.nm.1, .string t.nm.2, u0, u1, u2, u3, u4, u5, u6, .slice A3 t.args.length c3]) = X at *
  generalize w5.heap.size = g5 at *
  have CQ : Hid (∀ W, Below X.heap.size X W → Calls Tryz.prog 54 #[.agg #[.int .i64 t.kd, .string t.nm.1, .string t.nm.2, x0, x1, x2, x3, x4, x5, x6, .slice A2 t.args.length c2]] W (RetO W (Has X) OO)) := (show ∀ _, _ from fun W hW => by
   have h := quoteR t W (Has X) [.int .i64 t.kd, .string t.nm.1, .string t.nm.2, x0, x1, x2, x3, x4, x5, x6, .slice A2 t.args.length c2] ((In.has X).later hW.size) (HT.out.below (In.has X) hW) htn
   rw [hOO] at h
   exact h)
  have EQC : Hid (∀ W p1, Below X.heap.size X W → Pair W (Upto X W (Has X)) OO p1 → Calls Tryz.prog 53 #[vO OO p, vO OO p1] W (RetB W true)) := (show ∀ _, _ from fun W p1 hW h1 => by
   have h : Calls Tryz.prog 53 #[vO OO p, vO OO p1] W (RetB W (decide (OO = OO))) := equalO OO OO p p1 W (Upto X W (Has X)) ((In.has X).upto hW.size) ((HPV.out.below (In.has X) hW).more fun b hb => .inl hb) h1
   rw [decide_eq_true rfl] at h
   exact h)
  have EQT : Hid (∀ W, Below X.heap.size X W → Calls Tryz.prog 17 #[.agg #[.int .i64 t.kd, .string t.nm.1, .string t.nm.2, u0, u1, u2, u3, u4, u5, u6, .slice A3 t.args.length c3], .agg #[.int .i64 t.kd, .string t.nm.1, .string t.nm.2, x0, x1, x2, x3, x4, x5, x6, .slice A2 t.args.length c2]] W (RetB W true)) := (show ∀ _, _ from fun W hW => by
   have h := equalR (Has X) t t W [.int .i64 t.kd, .string t.nm.1, .string t.nm.2, u0, u1, u2, u3, u4, u5, u6, .slice A3 t.args.length c3] [.int .i64 t.kd, .string t.nm.1, .string t.nm.2, x0, x1, x2, x3, x4, x5, x6, .slice A2 t.args.length c2] ((In.has X).later hW.size) htn (HT5.out.below (In.has X) hW) (HT.out.below (In.has X) hW)
   rw [eqT_refl] at h
   exact h)
  obtain ⟨y0, y1, y2, y3, y4, y5, ey⟩ := cells7 OO p
  have HEY : Hid (vO OO p = .agg #[y0, y1, y2, y3, y4, y5, p]) := (show _ = _ by unfold vO; rw [ey])
  replace B4 : Hid (Bx X g4 #[y0, y1, y2, y3, y4, y5, p]) := (show Bx _ _ _ by have h := B4.out; rw [ey] at h; exact h)
  clear ey hq1 hq2 htn htd htb hqb hqn hOO HPV HT HT5
  refine wp_region_grow (l := _) 12 (by kernel_rfl) (by kernel_rfl) (fun i => [21, 22, 23, 24, 25, 26, 27, 28, 29, 30, 31, 32].getD i 0) (LR [LV (.agg #[y0, y1, y2, y3, y4, y5, p]), LV (.agg #[.int .i64 t.kd, .string t.nm.1, .string t.nm.2, x0, x1, x2, x3, x4, x5, x6, .slice A2 t.args.length c2]), LQ X (Has X) OO, LV (.bool true), LV (.bool true), LV (.bool true), LV (.bool true), LV (.bool true), LV (.agg #[.int .i64 t.kd, .string t.nm.1, .string t.nm.2, u0, u1, u2, u3, u4, u5, u6, .slice A3 t.args.length c3]), LV (.agg #[.int .i64 t.kd, .string t.nm.1, .string t.nm.2, x0, x1, x2, x3, x4, x5, x6, .slice A2 t.args.length c2]), LV (.bool true), LV (.bool true)]) (LR_mono ⟨mLV _, mLV _, mLQ (In.has X) _, mLV _, mLV _, mLV _, mLV _, mLV _, mLV _, mLV _, mLV _, mLV _, trivial⟩) (by
   intro i j hi hj h
   exact inj_getD [21, 22, 23, 24, 25, 26, 27, 28, 29, 30, 31, 32] (by decide) i j hi hj h) (by
   intro i hi
   exact lt_getD 33 [21, 22, 23, 24, 25, 26, 27, 28, 29, 30, 31, 32] (by decide) i hi) ?step ?done
  case step =>
   intro ii hii a w9 v lo hi' hoth hb hw
   have sl3 : a.tmps[3]? = some (.pointer (some ⟨g3, 0, none⟩)) := (hoth 3 (fun j hj => ne_getD 3 _ (by decide) j hj)).trans rfl
   have sl4 : a.tmps[4]? = some (.pointer (some ⟨g4, 0, none⟩)) := (hoth 4 (fun j hj => ne_getD 4 _ (by decide) j hj)).trans rfl
   have sl5 : a.tmps[5]? = some (.pointer (some ⟨g5, 0, none⟩)) := (hoth 5 (fun j hj => ne_getD 5 _ (by decide) j hj)).trans rfl
   have sl6 : a.tmps[6]? = some (.bool true) := (hoth 6 (fun j hj => ne_getD 6 _ (by decide) j hj)).trans rfl
   match ii, hii with
   | 0, _ =>
    obtain ⟨b0, b1, b2, b3, b4, b5, b6⟩ := (B4.out.keep hb).c
    refine wpOp_step rfl fun K' hK' => ?_
    rw [if_pos (wanted_plain rfl)]
    unfold Oper.wp
    simp only [execOp]
    go_simp
    exact hK' _ _ ⟨_, rfl, Below.refl _ _, rfl⟩
   | 1, _ =>
    have HBB := B3.out.keep hb
    have ck0 : w9.cell? ⟨g3, 0, none⟩ = _ := TB.cell HBB 0 _ rfl
    have ck1 : w9.cell? ⟨g3, 1, none⟩ = _ := TB.cell HBB 1 _ rfl
    have ck2 : w9.cell? ⟨g3, 2, none⟩ = _ := TB.cell HBB 2 _ rfl
    have ck3 : w9.cell? ⟨g3, 3, none⟩ = _ := TB.cell HBB 3 _ rfl
    have ck4 : w9.cell? ⟨g3, 4, none⟩ = _ := TB.cell HBB 4 _ rfl
    have ck5 : w9.cell? ⟨g3, 5, none⟩ = _ := TB.cell HBB 5 _ rfl
    have ck6 : w9.cell? ⟨g3, 6, none⟩ = _ := TB.cell HBB 6 _ rfl
    have ck7 : w9.cell? ⟨g3, 7, none⟩ = _ := TB.cell HBB 7 _ rfl
    have ck8 : w9.cell? ⟨g3, 8, none⟩ = _ := TB.cell HBB 8 _ rfl
    have ck9 : w9.cell? ⟨g3, 9, none⟩ = _ := TB.cell HBB 9 _ rfl
    have ck10 : w9.cell? ⟨g3, 10, none⟩ = _ := TB.cell HBB 10 _ rfl
    refine wpOp_step rfl fun K' hK' => ?_
    rw [if_pos (wanted_plain rfl)]
    unfold Oper.wp
    simp only [execOp]
    go_simp
    exact hK' _ _ ⟨_, rfl, Below.refl _ _, rfl⟩
   | 2, _ =>
    obtain ⟨s0, r0, _⟩ := hw 1 (by omega) (by kernel_rfl)
    have e0 : v 1 = .agg #[.int .i64 t.kd, .string t.nm.1, .string t.nm.2, x0, x1, x2, x3, x4, x5, x6, .slice A2 t.args.length c2] := r0
    rw [e0] at s0
    replace s0 : a.tmps[22]? = some (.agg #[.int .i64 t.kd, .string t.nm.1, .string t.nm.2, x0, x1, x2, x3, x4, x5, x6, .slice A2 t.args.length c2]) := s0
    refine gw_t rfl (wanted_plain rfl) 54 22 _ _ rfl (fun v w => by go_simp) s0 ?_
    with_reducible refine (CQ.out w9 hb).mono ?_
    rintro e w3 ⟨p3, rfl, h3, hb3⟩
    exact ⟨_, rfl, _, rfl, hb3, Nat.le_trans hb.size hb3.size, p3, rfl, h3.more (fun b hb0 => up3 (Below.refl _ X) hb b hb0)⟩
   | 3, _ =>
    obtain ⟨s0, r0, _⟩ := hw 0 (by omega) (by kernel_rfl)
    have e0 : v 0 = .agg #[y0, y1, y2, y3, y4, y5, p] := r0
    rw [e0] at s0
    replace s0 : a.tmps[21]? = some (.agg #[y0, y1, y2, y3, y4, y5, p]) := s0
    obtain ⟨s1, r1, b1⟩ := hw 2 (by omega) (by kernel_rfl)
    obtain ⟨hz1, p1, e1, h1⟩ := r1
    rw [e1] at s1
    replace s1 : a.tmps[23]? = some (vO OO p1) := s1
    rw [← HEY.out] at s0
    refine gw_tt rfl (wanted_plain rfl) 53 21 23 _ _ _ rfl (fun v u w => by go_simp) s0 s1 ?_
    with_reducible refine (EQC.out w9 p1 hb h1).mono ?_
    rintro e w3 ⟨rfl, hb3⟩
    exact ⟨_, rfl, _, rfl, hb3, rfl⟩
   | 4, _ =>
    obtain ⟨s0, r0, _⟩ := hw 3 (by omega) (by kernel_rfl)
    have e0 : v 3 = .bool true := r0
    rw [e0] at s0
    replace s0 : a.tmps[24]? = some (.bool true) := s0
    exact gw_move rfl (wanted_plain rfl) 24 _ rfl s0 ⟨_, rfl, Below.refl _ _, rfl⟩
   | 5, _ =>
    obtain ⟨s9, r9, _⟩ := hw 4 (by omega) (by kernel_rfl)
    have e9 : v 4 = .bool true := r9
    rw [e9] at s9
    replace s9 : a.tmps[25]? = some (.bool true) := s9
    exact gw_move rfl (wanted_on rfl rfl rfl s9 rfl) 6 _ rfl sl6 ⟨_, rfl, Below.refl _ _, rfl⟩
   | 6, _ =>
    obtain ⟨s0, r0, _⟩ := hw 4 (by omega) (by kernel_rfl)
    have e0 : v 4 = .bool true := r0
    rw [e0] at s0
    replace s0 : a.tmps[25]? = some (.bool true) := s0
    obtain ⟨s1, r1, _⟩ := hw 5 (by omega) (by kernel_rfl)
    have e1 : v 5 = .bool true := r1
    rw [e1] at s1
    replace s1 : a.tmps[26]? = some (.bool true) := s1
    refine wpOp_step rfl fun K' hK' => ?_
    rw [if_pos (wanted_plain rfl)]
    unfold Oper.wp
    simp only [execOp]
    go_simp
    exact hK' _ _ ⟨_, rfl, Below.refl _ _, rfl⟩
   | 7, _ =>
    obtain ⟨s0, r0, _⟩ := hw 6 (by omega) (by kernel_rfl)
    have e0 : v 6 = .bool true := r0
    rw [e0] at s0
    replace s0 : a.tmps[27]? = some (.bool true) := s0
    exact gw_move rfl (wanted_plain rfl) 27 _ rfl s0 ⟨_, rfl, Below.refl _ _, rfl⟩
   | 8, _ =>
    obtain ⟨s9, r9, _⟩ := hw 7 (by omega) (by kernel_rfl)
    have e9 : v 7 = .bool true := r9
    rw [e9] at s9
    replace s9 : a.tmps[28]? = some (.bool true) := s9
    have HBB := B5.out.keep hb
    have ck0 : w9.cell? ⟨g5, 0, none⟩ = _ := TB.cell HBB 0 _ rfl
    have ck1 : w9.cell? ⟨g5, 1, none⟩ = _ := TB.cell HBB 1 _ rfl
    have ck2 : w9.cell? ⟨g5, 2, none⟩ = _ := TB.cell HBB 2 _ rfl
    have ck3 : w9.cell? ⟨g5, 3, none⟩ = _ := TB.cell HBB 3 _ rfl
    have ck4 : w9.cell? ⟨g5, 4, none⟩ = _ := TB.cell HBB 4 _ rfl
    have ck5 : w9.cell? ⟨g5, 5, none⟩ = _ := TB.cell HBB 5 _ rfl
    have ck6 : w9.cell? ⟨g5, 6, none⟩ = _ := TB.cell HBB 6 _ rfl
    have ck7 : w9.cell? ⟨g5, 7, none⟩ = _ := TB.cell HBB 7 _ rfl
    have ck8 : w9.cell? ⟨g5, 8, none⟩ = _ := TB.cell HBB 8 _ rfl
    have ck9 : w9.cell? ⟨g5, 9, none⟩ = _ := TB.cell HBB 9 _ rfl
    have ck10 : w9.cell? ⟨g5, 10, none⟩ = _ := TB.cell HBB 10 _ rfl
    refine wpOp_step rfl fun K' hK' => ?_
    rw [if_pos (wanted_on rfl rfl rfl s9 rfl)]
    unfold Oper.wp
    simp only [execOp]
    go_simp
    exact hK' _ _ ⟨_, rfl, Below.refl _ _, rfl⟩
   | 9, _ =>
    obtain ⟨s9, r9, _⟩ := hw 7 (by omega) (by kernel_rfl)
    have e9 : v 7 = .bool true := r9
    rw [e9] at s9
    replace s9 : a.tmps[28]? = some (.bool true) := s9
    have HBB := B3.out.keep hb
    have ck0 : w9.cell? ⟨g3, 0, none⟩ = _ := TB.cell HBB 0 _ rfl
    have ck1 : w9.cell? ⟨g3, 1, none⟩ = _ := TB.cell HBB 1 _ rfl
    have ck2 : w9.cell? ⟨g3, 2, none⟩ = _ := TB.cell HBB 2 _ rfl
    have ck3 : w9.cell? ⟨g3, 3, none⟩ = _ := TB.cell HBB 3 _ rfl
    have ck4 : w9.cell? ⟨g3, 4, none⟩ = _ := TB.cell HBB 4 _ rfl
    have ck5 : w9.cell? ⟨g3, 5, none⟩ = _ := TB.cell HBB 5 _ rfl
    have ck6 : w9.cell? ⟨g3, 6, none⟩ = _ := TB.cell HBB 6 _ rfl
    have ck7 : w9.cell? ⟨g3, 7, none⟩ = _ := TB.cell HBB 7 _ rfl
    have ck8 : w9.cell? ⟨g3, 8, none⟩ = _ := TB.cell HBB 8 _ rfl
    have ck9 : w9.cell? ⟨g3, 9, none⟩ = _ := TB.cell HBB 9 _ rfl
    have ck10 : w9.cell? ⟨g3, 10, none⟩ = _ := TB.cell HBB 10 _ rfl
    refine wpOp_step rfl fun K' hK' => ?_
    rw [if_pos (wanted_on rfl rfl rfl s9 rfl)]
    unfold Oper.wp
    simp only [execOp]
    go_simp
    exact hK' _ _ ⟨_, rfl, Below.refl _ _, rfl⟩
   | 10, _ =>
    obtain ⟨s0, r0, _⟩ := hw 8 (by omega) (by kernel_rfl)
    have e0 : v 8 = .agg #[.int .i64 t.kd, .string t.nm.1, .string t.nm.2, u0, u1, u2, u3, u4, u5, u6, .slice A3 t.args.length c3] := r0
    rw [e0] at s0
    replace s0 : a.tmps[29]? = some (.agg #[.int .i64 t.kd, .string t.nm.1, .string t.nm.2, u0, u1, u2, u3, u4, u5, u6, .slice A3 t.args.length c3]) := s0
    obtain ⟨s1, r1, _⟩ := hw 9 (by omega) (by kernel_rfl)
    have e1 : v 9 = .agg #[.int .i64 t.kd, .string t.nm.1, .string t.nm.2, x0, x1, x2, x3, x4, x5, x6, .slice A2 t.args.length c2] := r1
    rw [e1] at s1
    replace s1 : a.tmps[30]? = some (.agg #[.int .i64 t.kd, .string t.nm.1, .string t.nm.2, x0, x1, x2, x3, x4, x5, x6, .slice A2 t.args.length c2]) := s1
    obtain ⟨s9, r9, _⟩ := hw 7 (by omega) (by kernel_rfl)
    have e9 : v 7 = .bool true := r9
    rw [e9] at s9
    replace s9 : a.tmps[28]? = some (.bool true) := s9
    refine gw_tt rfl (wanted_on rfl rfl rfl s9 rfl) 17 29 30 _ _ _ rfl (fun v u w => by go_simp) s0 s1 ?_
    with_reducible refine (EQT.out w9 hb).mono ?_
    rintro e w3 ⟨rfl, hb3⟩
    exact ⟨_, rfl, _, rfl, hb3, rfl⟩
   | 11, _ =>
    obtain ⟨s0, r0, _⟩ := hw 7 (by omega) (by kernel_rfl)
    have e0 : v 7 = .bool true := r0
    rw [e0] at s0
    replace s0 : a.tmps[28]? = some (.bool true) := s0
    obtain ⟨s1, r1, _⟩ := hw 10 (by omega) (by kernel_rfl)
    have e1 : v 10 = .bool true := r1
    rw [e1] at s1
    replace s1 : a.tmps[31]? = some (.bool true) := s1
    refine wpOp_step rfl fun K' hK' => ?_
    rw [if_pos (wanted_plain rfl)]
    unfold Oper.wp
    simp only [execOp]
    go_simp
    exact hK' _ _ ⟨_, rfl, Below.refl _ _, rfl⟩
  case done =>
   intro a w9 v lo hi' hdef hsz hoth hb hj hap
   obtain ⟨_, hv11, _, _⟩ := hj 11 (by omega)
   have ha := eq_puts hdef hsz hoth (fun i hi => (hj i hi).1)
   subst ha
   clear hj hoth hdef hsz hap
   change v 11 = _ at hv11
   simp only [puts, List.getD_cons_zero, List.getD_cons_succ, hv11]
   generalize v 0 = v0
   generalize v 1 = v1
   generalize v 2 = v2
   generalize v 3 = v3
   generalize v 4 = v4
   generalize v 5 = v5
   generalize v 6 = v6
   generalize v 7 = v7
   generalize v 8 = v8
   generalize v 9 = v9
   generalize v 10 = v10
   clear hv11
   simp only [Act.put, List.setIfInBounds_toArray, List.set_cons_zero, List.set_cons_succ]
   show wpList _ _ _ [_] _ _
   replace HB := hI (chain2 HB.out hb (Nat.le_refl _))
   clear hb CQ EQC EQT
   go_wp2
   go_ret
   exact ⟨rfl, HB.out⟩
theorem termQuotes_walk (ra : Rw) (a0 a1 a2 a3 : Value) (w : World) (hra : RawAt w (Has w) ra [a0, a1, a2, a3]) (ht : Tab w) :
 Calls Tryz.prog 10 #[.agg #[a0, a1, a2, a3]] w (RetB w true) :=
 termQuotesW ra a0 a1 a2 a3 w hra ht
end Go.Proofs.YtinjhnnpbejccaaGreatDoor
