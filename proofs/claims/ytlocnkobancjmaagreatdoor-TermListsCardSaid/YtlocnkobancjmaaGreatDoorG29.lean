/- The walk of TermLists. -/
import Derived.Test.YtlocnkobancjmaaGreatDoorG19
import Derived.Test.YtlocnkobancjmaaGreatDoorG28
namespace Go.Proofs.YtlocnkobancjmaaGreatDoor
open Go Go.RowKit
set_option linter.unusedVariables false
set_option maxHeartbeats 32000000
set_option maxRecDepth 100000
theorem uN_ok {s : ByteArray} (h : s.size ≤ 100) : (uN s).1.size ≤ maxLen ∧ (uN s).2.size ≤ maxLen := ⟨(show (BA [117, 115, 101, 114]).size ≤ maxLen by decide), Nat.le_trans h (by decide)⟩
theorem vAt_ok (n : Int) : (vAt n).1.size ≤ maxLen ∧ (vAt n).2.size ≤ maxLen := by
 unfold vAt
 have h : ∀ k, (vN4.getD k (uN ⟨#[120]⟩)).1.size ≤ maxLen ∧ (vN4.getD k (uN ⟨#[120]⟩)).2.size ≤ maxLen := fun k => by
  match k with
  | 0 => exact uN_ok (by decide)
  | 1 => exact uN_ok (by decide)
  | 2 => exact uN_ok (by decide)
  | 3 => exact uN_ok (by decide)
  | k + 4 => exact uN_ok (by decide)
 exact h _
theorem fAt_ok (n : Int) : (fAt n).1.size ≤ maxLen ∧ (fAt n).2.size ≤ maxLen := by
 unfold fAt
 have h : ∀ k, (uN (fNs.getD k ⟨#[102]⟩)).1.size ≤ maxLen ∧ (uN (fNs.getD k ⟨#[102]⟩)).2.size ≤ maxLen := fun k => by
  match k with
  | 0 => exact uN_ok (by decide)
  | 1 => exact uN_ok (by decide)
  | 2 => exact uN_ok (by decide)
  | k + 3 => exact uN_ok (show (⟨#[102]⟩ : ByteArray).size ≤ 100 by decide)
 exact h _
mutual
theorem mtP_nm {PO : Rw → Ob → Prop} : ∀ (r : Rw) (t : Tm), mtP PO r t → ∀ u ∈ subsT t, NmOk u
 | .mk k n s l, t, h, u, hu => by
  unfold mtP at h
  split at h
  · subst h
    obtain rfl : u = .var (vAt n) := by unfold subsT at hu; simpa using hu
    exact vAt_ok n
  · split at h
    · obtain ⟨o, rfl, _⟩ := h
      obtain rfl : u = .con o := by unfold subsT at hu; simpa using hu
      exact ⟨Nat.zero_le _, Nat.zero_le _⟩
    · obtain ⟨ts, rfl, _, hm⟩ := h
      rw [subsT_eq] at hu
      rcases List.mem_cons.1 hu with rfl | hu
      · exact fAt_ok n
      · exact mtsP_nm l ts hm u hu
theorem mtsP_nm {PO : Rw → Ob → Prop} : ∀ (l : List Rw) (ts : List Tm), mtsP PO l ts → ∀ u ∈ subsTs ts, NmOk u
 | _, [], _, u, hu => by rw [subsTs_nil] at hu; simp at hu
 | [], _ :: _, h, u, hu => by unfold mtsP at h; exact h.elim
 | r :: rs, t :: ts, h, u, hu => by
  unfold mtsP at h
  rw [subsTs_cons] at hu
  rcases List.mem_append.1 hu with hu | hu
  · exact mtP_nm r t h.1 u hu
  · exact mtsP_nm rs ts h.2 u hu
end
theorem subsTs_one (t : Tm) : subsTs [t] = subsT t := by rw [subsTs_cons, subsTs_nil, List.append_nil]
theorem groundR (t : Tm) (cs : List Value) (w : World) (S : Nat → Prop) (hS : In S w) (h : TmAt w S t cs) (hn : t.nodes ≤ 3000) :
 Calls Tryz.prog 32 #[vTm cs] w (RetB w (noVar (subsT t))) := by
 have h' := h
 obtain ⟨x0, x1, x2, x3, x4, x5, x6, A, c, rfl, _, _⟩ := h'.eleven
 have hA : Below w.heap.size w ((w.alloc (.cells #[.int .i64 t.kd, .string t.nm.1, .string t.nm.2, x0, x1, x2, x3, x4, x5, x6, .slice A t.args.length c] 45)).alloc (.cells #[.int .i64 t.kd, .string t.nm.1, .string t.nm.2, x0, x1, x2, x3, x4, x5, x6, .slice A t.args.length c] 45)) := Below.alloc (Below.alloc (Below.refl _ _) (Nat.le_refl _) _) (by simp) _
 have B0 : TB (w.alloc (.cells #[.int .i64 t.kd, .string t.nm.1, .string t.nm.2, x0, x1, x2, x3, x4, x5, x6, .slice A t.args.length c] 45)) w.heap.size [.int .i64 t.kd, .string t.nm.1, .string t.nm.2, x0, x1, x2, x3, x4, x5, x6, .slice A t.args.length c] := heap_alloc_new w _
 have R2 : ((w.alloc (.cells #[.int .i64 t.kd, .string t.nm.1, .string t.nm.2, x0, x1, x2, x3, x4, x5, x6, .slice A t.args.length c] 45)).alloc (.cells #[.int .i64 t.kd, .string t.nm.1, .string t.nm.2, x0, x1, x2, x3, x4, x5, x6, .slice A t.args.length c] 45)).heap[w.heap.size + 1]? = some (.cells #[.int .i64 t.kd, .string t.nm.1, .string t.nm.2, x0, x1, x2, x3, x4, x5, x6, .slice A t.args.length c] 45 (0, 0)) := heap_new_at (by simp)
 have k0 := TB.cell B0 0 _ rfl
 have k1 := TB.cell B0 1 _ rfl
 have k2 := TB.cell B0 2 _ rfl
 have k3 := TB.cell B0 3 _ rfl
 have k4 := TB.cell B0 4 _ rfl
 have k5 := TB.cell B0 5 _ rfl
 have k6 := TB.cell B0 6 _ rfl
 have k7 := TB.cell B0 7 _ rfl
 have k8 := TB.cell B0 8 _ rfl
 have k9 := TB.cell B0 9 _ rfl
 have k10 := TB.cell B0 10 _ rfl
 have hAA : ArgsAt ((w.alloc (.cells #[.int .i64 t.kd, .string t.nm.1, .string t.nm.2, x0, x1, x2, x3, x4, x5, x6, .slice A t.args.length c] 45)).alloc (.cells #[.int .i64 t.kd, .string t.nm.1, .string t.nm.2, x0, x1, x2, x3, x4, x5, x6, .slice A t.args.length c] 45)) (fun b => S b ∨ b = w.heap.size + 1) [t] (some ⟨w.heap.size + 1, 0, none⟩) 1 := by
  refine ⟨Nat.le_refl _, fun _ => ⟨_, _, rfl, ⟨.inr rfl, _, _, R2⟩, ?_⟩⟩
  unfold TmsAt
  refine ⟨⟨_, (h.below hS hA).more fun b hb => .inl hb, fun j u hj => TB.cell (g := w.heap.size + 1) R2 j u hj⟩, ?_⟩
  unfold TmsAt; trivial
 have hz : ((w.alloc (.cells #[.int .i64 t.kd, .string t.nm.1, .string t.nm.2, x0, x1, x2, x3, x4, x5, x6, .slice A t.args.length c] 45)).alloc (.cells #[.int .i64 t.kd, .string t.nm.1, .string t.nm.2, x0, x1, x2, x3, x4, x5, x6, .slice A t.args.length c] 45)).heap.size = w.heap.size + 2 := by simp
 have hST : In (fun b => S b ∨ b = w.heap.size + 1) ((w.alloc (.cells #[.int .i64 t.kd, .string t.nm.1, .string t.nm.2, x0, x1, x2, x3, x4, x5, x6, .slice A t.args.length c] 45)).alloc (.cells #[.int .i64 t.kd, .string t.nm.1, .string t.nm.2, x0, x1, x2, x3, x4, x5, x6, .slice A t.args.length c] 45)) := fun b hb => by
  rcases hb with hb | hb
  · have := hS b hb; omega
  · omega
 have VC : Hid (Calls Tryz.prog 35 #[.slice (some ⟨w.heap.size + 1, 0, none⟩) 1 1] ((w.alloc (.cells #[.int .i64 t.kd, .string t.nm.1, .string t.nm.2, x0, x1, x2, x3, x4, x5, x6, .slice A t.args.length c] 45)).alloc (.cells #[.int .i64 t.kd, .string t.nm.1, .string t.nm.2, x0, x1, x2, x3, x4, x5, x6, .slice A t.args.length c] 45)) (RetNs ((w.alloc (.cells #[.int .i64 t.kd, .string t.nm.1, .string t.nm.2, x0, x1, x2, x3, x4, x5, x6, .slice A t.args.length c] 45)).alloc (.cells #[.int .i64 t.kd, .string t.nm.1, .string t.nm.2, x0, x1, x2, x3, x4, x5, x6, .slice A t.args.length c] 45)) (namesF 1 (subsT t)))) := by
  have h := variablesR 3000 [t] _ 1 ((w.alloc (.cells #[.int .i64 t.kd, .string t.nm.1, .string t.nm.2, x0, x1, x2, x3, x4, x5, x6, .slice A t.args.length c] 45)).alloc (.cells #[.int .i64 t.kd, .string t.nm.1, .string t.nm.2, x0, x1, x2, x3, x4, x5, x6, .slice A t.args.length c] 45)) _ hST hAA (by simp [Tm.nodesL]; omega) (by decide)
  rw [subsTs_one] at h
  exact h
 have HEQ := hI (noVar_len (subsT t))
 have HA := hI hA
 unfold vTm
 generalize namesF 1 (subsT t) = F at *
 generalize noVar (subsT t) = q at *
 clear h h' hS hAA hST hz R2 B0 hA
 go_enter Tryz.func32, Tryz.ntmps32
 go_wp2_with fail
 refine VC.out.mono ?_
 rintro e w3 ⟨v, rfl, hv, hb3⟩
 obtain ⟨Av, cv, rfl, hle, hcv⟩ := hv
 clear hcv
 have HB := hI (HA.out.trans (hb3.mono HA.out.size))
 clear hb3 VC HA k0 k1 k2 k3 k4 k5 k6 k7 k8 k9 k10
 generalize F.length = n at *
 by_cases hn0 : n = 0
 · subst hn0
   have hq : q = true := HEQ.out
   subst hq
   go_wp2
   go_ret
   exact ⟨rfl, HB.out⟩
 · have hq : q = false := by rw [HEQ.out]; simpa using hn0
   subst hq
   have hn1 : ¬ (n : Int) = 0 := by omega
   have hn2 : ((n : Int) == 0) = false := by rw [beq_eq_false_iff_ne]; exact hn1
   go_wp2
   go_ret
   exact ⟨rfl, HB.out⟩
def MqL (Y wr : World) (i : Nat) (sl : Value) : Prop := ∃ ts xs, MkT NoB Y wr ts sl xs ∧ ts.length = i ∧ Tm.nodesL ts ≤ 100 * i ∧ ∀ u ∈ subsTs ts, NmOk u
theorem termListsW (l : List Rw) (A : Option Addr) (c : Nat) (w : World) (hlc : l.length ≤ c) (hcm : c ≤ maxLen) (hA : 0 < l.length → ∃ b o, A = some ⟨b, o, none⟩ ∧ Has w b ∧ RawsAt w (Has w) b o l) (ht : Tab w) :
 Calls Tryz.prog 5 #[.slice A l.length c] w (RetB w true) := by
 have HTB := hI ht
 have HA0 := hI hA
 have CA : Hid (∀ X, Below w.heap.size w X → Calls Tryz.prog 18 #[.slice A l.length c, .int .i64 25] X (fun e w' => ∃ t, e = .returned (.bool t) ∧ Below X.heap.size X w' ∧ (t = true → l.length ≤ 8 ∧ ∀ i (hi : i < l.length), few l[i] 25 = true))) := fun X h => fewAllO l A c 25 X (Has w) (In.has w |>.later h.size) hlc hcm (by decide) (by decide) (fun h0 => by
  obtain ⟨b, o, e, hb, hrs⟩ := HA0.out h0
  exact ⟨b, o, e, hb, RawsAt.keep (fun q hq => h.cell (In.has w q.block hq)) b o hb l hrs⟩)
 have HI : Hid (∀ i (hi : i < l.length), few l[i] 25 = true → ∀ X cs, RawAt X (Has w) l[i] cs → Below w.heap.size w X → Calls Tryz.prog 20 #[.agg cs.toArray] X (RetTP X (fun t => t.nodes ≤ 100 ∧ ∀ u ∈ subsT t, NmOk u))) := fun i hi hf X cs hraw h => by
  obtain ⟨hok, hcn⟩ := few_ok hf
  refine (madeT (fun _ _ => True) oMkT l[i] cs X (Has w) (In.has w |>.later h.size) hraw hok (HTB.out.below h)).mono ?_
  rintro e w' ⟨t, ht, hm⟩
  exact ⟨t, ht, by have := mtP_nodes _ _ hm; omega, mtP_nm _ _ hm⟩
 have HB : Hid (Below w.heap.size w w) := Below.refl _ _
 clear ht hA hlc hcm
 go_enter Tryz.func5, Tryz.ntmps5
 go_upto_region 1 with fail
 go_wp2_with fail
 with_reducible refine (first8 w).mono ?_
 rintro e w1 ⟨rfl, hb⟩
 replace HB := hI (chain2 HB.out hb (Nat.le_refl _))
 clear hb
 go_wp2_with fail
 with_reducible refine (CA.out _ HB.out).mono ?_
 rintro e w3 ⟨tt, rfl, hb, hfa⟩
 replace HB := hI (chain2 HB.out hb (Nat.le_refl _))
 clear hb CA
 cases tt with
 | false =>
  go_wp2
  go_ret
  exact ⟨rfl, HB.out⟩
 | true =>
  obtain ⟨hl8, hfew⟩ := hfa rfl
  have HFW := hI hfew
  clear hfa hfew
  obtain ⟨L, hL⟩ : ∃ L, l.length = L := ⟨_, rfl⟩
  have HL := hI hL
  rw [hL] at hl8 ⊢
  obtain ⟨i0, hi0, hz0, hz1, hz2⟩ := infoT
  have HI0 := hI hi0
  have HZ0 := hI hz0
  have HZ1 := hI hz1
  have HZ2 := hI hz2
  have h0 : Hid (MqL w3 w3 0 (.slice none 0 0)) := ⟨[], [], MkT.start NoB _, rfl, by simp [Tm.nodesL], fun u hu => by rw [subsTs_nil] at hu; simp at hu⟩
  clear hL hi0 hz0 hz1 hz2
  go_wp2_with fail
  go_loopw [3, 4] (fun u v wr => ∃ (i : Nat) (sl : Value), sl = u ∧ i ≤ L ∧ v = .int .i64 (i : Int) ∧ Hid (MqL w3 wr i sl)) (fun _ v _ => L - (intOf v).toNat)
  case atStart => exact ⟨0, _, rfl, Nat.zero_le _, rfl, h0⟩
  case round =>
   clear h0
   obtain ⟨i, sl, rfl, hiL, rfl, hE⟩ := hrel
   obtain ⟨wo, rfl⟩ : ∃ wo : World, wo = wr := ⟨_, rfl⟩
   obtain ⟨ts, xs, hM, htl, hnd, hnm⟩ := hE.out
   have HBO := hI (chain2 HB.out hM.bel (Nat.le_refl _))
   have hs3 : w3.heap.size ≤ wo.heap.size := hM.bel.size
   by_cases hlt : i < L
   · have hil : i < l.length := by rw [HL.out]; exact hlt
     obtain ⟨b, o, rfl, hbh, hrs⟩ := HA0.out (by omega)
     obtain ⟨cs, hcs, hcell⟩ := hrs.get hil
     have hcs' := hcs.below (In.has w) HBO.out
     have ha0 : b < w.heap.size := In.has w b hbh
     obtain ⟨z0, z1, z2, z3, rfl⟩ : ∃ z0 z1 z2 z3, cs = [z0, z1, z2, z3] := by
      generalize l[i] = r at hcs
      cases r with
      | mk k n s l => unfold RawAt at hcs; obtain ⟨A, c, e, _⟩ := hcs; exact ⟨_, _, _, _, e⟩
     have l0 := (HBO.out.cell (p := ⟨b, o + i * 4 + 0, none⟩) ha0).trans (hcell 0 z0 rfl)
     have l1 := (HBO.out.cell (p := ⟨b, o + i * 4 + 1, none⟩) ha0).trans (hcell 1 z1 rfl)
     have l2 := (HBO.out.cell (p := ⟨b, o + i * 4 + 2, none⟩) ha0).trans (hcell 2 z2 rfl)
     have l3 := (HBO.out.cell (p := ⟨b, o + i * 4 + 3, none⟩) ha0).trans (hcell 3 z3 rfl)
     rw [Nat.add_zero] at l0
     have call := hI (HI.out i hil (HFW.out i hil) wo [z0, z1, z2, z3] hcs' HBO.out)
     have HMK := hI hM
     have HTL := hI htl
     have HND := hI hnd
     have HNM := hI hnm
     generalize l[i] = rr at *
     clear hcell hcs hcs' hrs hM htl hnd hnm hE
     go_wp2_with fail
     refine call.out.mono ?_
     rintro e w4 ⟨t, ⟨cs3, rfl, h3, hb3⟩, hmt, hmn⟩
     have own3 := hI (HMK.out.own3 hb3 (.cells cs3.toArray 45))
     rw [HTL.out] at own3
     have HSTEP : Hid (∀ v' w5, w5.ownsRow w3.heap.size 45 11 v' (i + 1) (xs.flatten ++ cs3) → (w4.alloc (.cells cs3.toArray 45)).grownBy w5 sl.ownBlock → (v'.ownBlock = sl.ownBlock ∨ v'.ownBlock = some (w4.alloc (.cells cs3.toArray 45)).heap.size) → MqL w3 w5 (i + 1) v') :=
      fun v' w5 h4 hg hat => ⟨_, _, HMK.out.step (NoB.in _) hb3 _ h3 (by rw [HTL.out]; exact h4) hg hat, by rw [List.length_append, HTL.out]; rfl, by rw [Tm.nodesL_snoc]; have := HND.out; omega, fun u hu => by
       rw [subsTs_append, subsTs_one] at hu
       rcases List.mem_append.1 hu with hu | hu
       · exact HNM.out u hu
       · exact hmn u hu⟩
     have hone := h3.one
     have hnews : ∀ j u, cs3[j]? = some u → (w4.alloc (.cells cs3.toArray 45)).cell? ((⟨w4.heap.size, 0, none⟩ : Addr).add j) = some u := newsO (cs := cs3.toArray) rfl
     have hs4 : w3.heap.size ≤ (w4.alloc (.cells cs3.toArray 45)).heap.size := by have := hb3.size; simp; omega
     obtain ⟨y0, y1, y2, y3, y4, y5, y6, A3, c3, e3, _, _⟩ := h3.eleven
     subst e3
     have HONE := hI hone
     have HNEWS := hI hnews
     unfold vTm
     clear l0 l1 l2 l3 h3 hb3 call hone hnews hmt hmn HMK HND HNM
     go_wp2_with (at_builtin; refine wpList_append_own_at _ rfl (.tmp 17) (.tmp 23) _ rfl w3.heap.size 45 i0 _ 11 176 Tryz.underlying43 HI0.out HZ0.out HZ1.out HZ2.out rfl (by omega) sl i xs.flatten rfl own3.out ⟨w4.heap.size, 0, none⟩ 1 1 [.int .i64 t.kd, .string t.nm.1, .string t.nm.2, y0, y1, y2, y3, y4, y5, y6, .slice A3 t.args.length c3] rfl rfl HNEWS.out HONE.out (by simp only [maxLen]; omega) (by omega) hs4 ?_; intro v4 w5 hown4 hg4 hnil4 hat4; have hst := hI (HSTEP.out v4 w5 hown4 hg4 hat4); clear hown4 hg4 hnil4 hat4)
     go_roundw
     case rel => exact ⟨i + 1, _, rfl, by omega, by go_num, hst⟩
     case measure => simp [intOf]; omega
   · have hiL2 : i = L := by omega
     have hn2 : ¬ (i : Int) < L := by omega
     have hts := hM.slice
     obtain ⟨A1, c1, hsl, hargs⟩ := hts
     subst hsl
     have HAR : Hid (ArgsAt wo (Has wo) ts A1 c1) := hargs.more (fun b hb0 => by rcases hb0 with h | ⟨_, h⟩; exact h.elim; exact h)
     have HTL : Hid (ts.length ≤ 8) := (show _ ≤ _ by omega)
     have hle1 : ts.length ≤ c1 := hargs.1
     have HNL : Hid (Tm.nodesL ts ≤ 800) := (show _ ≤ _ by omega)
     have HNM := hI hnm
     have HN1 : Hid (∀ x ∈ ts, x.nodes ≤ 3000) := fun x hx => by have := Tm.nodes_mem hx; omega
     have HSL : Hid ((subsTs ts).length ≤ 800) := Nat.le_trans (subsTs_len ts) HNL.out
     obtain ⟨TL, hTL⟩ : ∃ TL, ts.length = TL := ⟨_, rfl⟩
     have HTE := hI hTL
     have hTL8 : TL ≤ 8 := by omega
     have h0 : Hid (Below wo.heap.size wo wo) := Below.refl _ _
     rw [hTL] at hle1 ⊢
     clear hM htl hnd hnm hE hargs hlt hl8 HI HFW HA0 hTL
     go_wp2_with fail
     go_loopw [5] (fun v wr => ∃ (i : Nat), i ≤ TL ∧ v = .int .i64 (i : Int) ∧ Hid (Below wo.heap.size wo wr)) (fun v _ => TL - (intOf v).toNat)
     case atStart => exact ⟨0, Nat.zero_le _, rfl, h0⟩
     case round =>
      clear h0
      obtain ⟨i, hiT, rfl, hE⟩ := hrel
      obtain ⟨wq, rfl⟩ : ∃ wq : World, wq = wr := ⟨_, rfl⟩
      by_cases hlt2 : i < TL
      · have hil2 : i < ts.length := by rw [HTE.out]; exact hlt2
        have HEB := hE
        obtain ⟨ba, oa, cs, rfl, hP⟩ := HAR.out.arg hil2
        have hbl : ba < wo.heap.size := In.has wo ba hP.1.1
        have hP' := hP.below (In.has wo) hE.out
        have htm : ts[i] ∈ ts := List.getElem_mem hil2
        have hnt := HN1.out _ htm
        have hsm : ∀ u ∈ subsT ts[i], NmOk u := fun u hu => HNM.out u (subsTs_mem htm hu)
        generalize ts[i] = t at *
        obtain ⟨x0, x1, x2, x3, x4, x5, x6, A3, c3, rfl, hva, har, k0, k1, k2, k3, k4, k5, k6, k7, k8, k9, k10⟩ := hP'.cells
        have HSQ : In (Has wo) wq := (In.has wo).later hE.out.size
        have HT := hP'.2.1
        obtain ⟨q, hq⟩ : ∃ q, noVar (subsT t) = q := ⟨_, rfl⟩
        have CG : Hid (∀ X, Below wq.heap.size wq X → Calls Tryz.prog 31 #[.agg #[.int .i64 t.kd, .string t.nm.1, .string t.nm.2, x0, x1, x2, x3, x4, x5, x6, .slice A3 t.args.length c3]] X (RetB X q)) := fun X hX => by
         have h := groundT t _ X (Has wo) (HSQ.later hX.size) (HT.below HSQ hX) hsm hnt
         rw [hq] at h
         exact h
        have CH : Hid (∀ X, Below wq.heap.size wq X → Calls Tryz.prog 32 #[.agg #[.int .i64 t.kd, .string t.nm.1, .string t.nm.2, x0, x1, x2, x3, x4, x5, x6, .slice A3 t.args.length c3]] X (RetB X q)) := fun X hX => by
         have h := groundR t _ X (Has wo) (HSQ.later hX.size) (HT.below HSQ hX) hnt
         rw [hq] at h
         exact h
        have HBA : Hid (ba < wq.heap.size) := Nat.lt_of_lt_of_le hbl hE.out.size
        have K0 := hI k0
        have K1 := hI k1
        have K2 := hI k2
        have K3 := hI k3
        have K4 := hI k4
        have K5 := hI k5
        have K6 := hI k6
        have K7 := hI k7
        have K8 := hI k8
        have K9 := hI k9
        have K10 := hI k10
        clear hP hP' hva har k0 k1 k2 k3 k4 k5 k6 k7 k8 k9 k10 HSQ HT hsm hnt hq htm hbl HN1 HNM HSL HNL HAR hE
        go_wp2_with fail
        refine wp_region_grow (l := _) 10 (by kernel_rfl) (by kernel_rfl) (fun i => [31, 32, 33, 34, 35, 36, 37, 38, 39, 40].getD i 0) (LR [LV (.slice (some ⟨ba, oa, none⟩) TL c1), LV (.int .i64 (i : Int)), LV (.pointer (some ⟨ba, oa + i * 11, none⟩)), LV (.agg #[.int .i64 t.kd, .string t.nm.1, .string t.nm.2, x0, x1, x2, x3, x4, x5, x6, .slice A3 t.args.length c3]), LV (.bool q), LV (.slice (some ⟨ba, oa, none⟩) TL c1), LV (.int .i64 (i : Int)), LV (.pointer (some ⟨ba, oa + i * 11, none⟩)), LV (.agg #[.int .i64 t.kd, .string t.nm.1, .string t.nm.2, x0, x1, x2, x3, x4, x5, x6, .slice A3 t.args.length c3]), LV (.bool q)]) (LR_mono ⟨mLV _, mLV _, mLV _, mLV _, mLV _, mLV _, mLV _, mLV _, mLV _, mLV _, trivial⟩) (by
         intro i j hi hj h
         exact inj_getD [31, 32, 33, 34, 35, 36, 37, 38, 39, 40] (by decide) i j hi hj h) (by
         intro i hi
         exact lt_getD 54 [31, 32, 33, 34, 35, 36, 37, 38, 39, 40] (by decide) i hi) ?step ?done
        case step =>
         intro ii hii a w9 v lo hi' hoth hb hw
         have sl3 : a.tmps[3]? = some (.slice (some ⟨ba, oa, none⟩) TL c1) := (hoth 3 (fun j hj => ne_getD 3 _ (by decide) j hj)).trans rfl
         have sl5 : a.tmps[5]? = some (.int .i64 (i : Int)) := (hoth 5 (fun j hj => ne_getD 5 _ (by decide) j hj)).trans rfl
         match ii, hii with
         | 0, _ =>
          exact gw_move rfl (wanted_plain rfl) 3 _ rfl sl3 ⟨_, rfl, Below.refl _ _, rfl⟩
         | 1, _ =>
          exact gw_move rfl (wanted_plain rfl) 5 _ rfl sl5 ⟨_, rfl, Below.refl _ _, rfl⟩
         | 2, _ =>
          obtain ⟨s0, r0, _⟩ := hw 0 (by omega) (by kernel_rfl)
          have e0 : v 0 = .slice (some ⟨ba, oa, none⟩) TL c1 := r0
          rw [e0] at s0
          replace s0 : a.tmps[31]? = some (.slice (some ⟨ba, oa, none⟩) TL c1) := s0
          obtain ⟨s1, r1, _⟩ := hw 1 (by omega) (by kernel_rfl)
          have e1 : v 1 = .int .i64 (i : Int) := r1
          rw [e1] at s1
          replace s1 : a.tmps[32]? = some (.int .i64 (i : Int)) := s1
          refine wpOp_step rfl fun K' hK' => ?_
          rw [if_pos (wanted_plain rfl)]
          unfold Oper.wp
          simp only [execOp]
          go_simp
          exact hK' _ _ ⟨_, rfl, Below.refl _ _, rfl⟩
         | 3, _ =>
          obtain ⟨s0, r0, _⟩ := hw 2 (by omega) (by kernel_rfl)
          have e0 : v 2 = .pointer (some ⟨ba, oa + i * 11, none⟩) := r0
          rw [e0] at s0
          replace s0 : a.tmps[33]? = some (.pointer (some ⟨ba, oa + i * 11, none⟩)) := s0
          have ck0 := (hb.cell (p := ⟨ba, oa + i * 11, none⟩) HBA.out).trans K0.out
          have ck1 := (hb.cell (p := ⟨ba, oa + i * 11 + 1, none⟩) HBA.out).trans K1.out
          have ck2 := (hb.cell (p := ⟨ba, oa + i * 11 + 2, none⟩) HBA.out).trans K2.out
          have ck3 := (hb.cell (p := ⟨ba, oa + i * 11 + 3, none⟩) HBA.out).trans K3.out
          have ck4 := (hb.cell (p := ⟨ba, oa + i * 11 + 4, none⟩) HBA.out).trans K4.out
          have ck5 := (hb.cell (p := ⟨ba, oa + i * 11 + 5, none⟩) HBA.out).trans K5.out
          have ck6 := (hb.cell (p := ⟨ba, oa + i * 11 + 6, none⟩) HBA.out).trans K6.out
          have ck7 := (hb.cell (p := ⟨ba, oa + i * 11 + 7, none⟩) HBA.out).trans K7.out
          have ck8 := (hb.cell (p := ⟨ba, oa + i * 11 + 8, none⟩) HBA.out).trans K8.out
          have ck9 := (hb.cell (p := ⟨ba, oa + i * 11 + 9, none⟩) HBA.out).trans K9.out
          have ck10 := (hb.cell (p := ⟨ba, oa + i * 11 + 10, none⟩) HBA.out).trans K10.out
          refine wpOp_step rfl fun K' hK' => ?_
          rw [if_pos (wanted_plain rfl)]
          unfold Oper.wp
          simp only [execOp]
          go_simp
          exact hK' _ _ ⟨_, rfl, Below.refl _ _, rfl⟩
         | 4, _ =>
          obtain ⟨s0, r0, _⟩ := hw 3 (by omega) (by kernel_rfl)
          have e0 : v 3 = .agg #[.int .i64 t.kd, .string t.nm.1, .string t.nm.2, x0, x1, x2, x3, x4, x5, x6, .slice A3 t.args.length c3] := r0
          rw [e0] at s0
          replace s0 : a.tmps[34]? = some (.agg #[.int .i64 t.kd, .string t.nm.1, .string t.nm.2, x0, x1, x2, x3, x4, x5, x6, .slice A3 t.args.length c3]) := s0
          refine gw_t rfl (wanted_plain rfl) 31 34 _ _ rfl (fun v w => by go_simp) s0 ?_
          with_reducible refine (CG.out w9 hb).mono ?_
          rintro e w3 ⟨rfl, hb3⟩
          exact ⟨_, rfl, _, rfl, hb3, rfl⟩
         | 5, _ =>
          exact gw_move rfl (wanted_plain rfl) 3 _ rfl sl3 ⟨_, rfl, Below.refl _ _, rfl⟩
         | 6, _ =>
          exact gw_move rfl (wanted_plain rfl) 5 _ rfl sl5 ⟨_, rfl, Below.refl _ _, rfl⟩
         | 7, _ =>
          obtain ⟨s0, r0, _⟩ := hw 5 (by omega) (by kernel_rfl)
          have e0 : v 5 = .slice (some ⟨ba, oa, none⟩) TL c1 := r0
          rw [e0] at s0
          replace s0 : a.tmps[36]? = some (.slice (some ⟨ba, oa, none⟩) TL c1) := s0
          obtain ⟨s1, r1, _⟩ := hw 6 (by omega) (by kernel_rfl)
          have e1 : v 6 = .int .i64 (i : Int) := r1
          rw [e1] at s1
          replace s1 : a.tmps[37]? = some (.int .i64 (i : Int)) := s1
          refine wpOp_step rfl fun K' hK' => ?_
          rw [if_pos (wanted_plain rfl)]
          unfold Oper.wp
          simp only [execOp]
          go_simp
          exact hK' _ _ ⟨_, rfl, Below.refl _ _, rfl⟩
         | 8, _ =>
          obtain ⟨s0, r0, _⟩ := hw 7 (by omega) (by kernel_rfl)
          have e0 : v 7 = .pointer (some ⟨ba, oa + i * 11, none⟩) := r0
          rw [e0] at s0
          replace s0 : a.tmps[38]? = some (.pointer (some ⟨ba, oa + i * 11, none⟩)) := s0
          have ck0 := (hb.cell (p := ⟨ba, oa + i * 11, none⟩) HBA.out).trans K0.out
          have ck1 := (hb.cell (p := ⟨ba, oa + i * 11 + 1, none⟩) HBA.out).trans K1.out
          have ck2 := (hb.cell (p := ⟨ba, oa + i * 11 + 2, none⟩) HBA.out).trans K2.out
          have ck3 := (hb.cell (p := ⟨ba, oa + i * 11 + 3, none⟩) HBA.out).trans K3.out
          have ck4 := (hb.cell (p := ⟨ba, oa + i * 11 + 4, none⟩) HBA.out).trans K4.out
          have ck5 := (hb.cell (p := ⟨ba, oa + i * 11 + 5, none⟩) HBA.out).trans K5.out
          have ck6 := (hb.cell (p := ⟨ba, oa + i * 11 + 6, none⟩) HBA.out).trans K6.out
          have ck7 := (hb.cell (p := ⟨ba, oa + i * 11 + 7, none⟩) HBA.out).trans K7.out
          have ck8 := (hb.cell (p := ⟨ba, oa + i * 11 + 8, none⟩) HBA.out).trans K8.out
          have ck9 := (hb.cell (p := ⟨ba, oa + i * 11 + 9, none⟩) HBA.out).trans K9.out
          have ck10 := (hb.cell (p := ⟨ba, oa + i * 11 + 10, none⟩) HBA.out).trans K10.out
          refine wpOp_step rfl fun K' hK' => ?_
          rw [if_pos (wanted_plain rfl)]
          unfold Oper.wp
          simp only [execOp]
          go_simp
          exact hK' _ _ ⟨_, rfl, Below.refl _ _, rfl⟩
         | 9, _ =>
          obtain ⟨s0, r0, _⟩ := hw 8 (by omega) (by kernel_rfl)
          have e0 : v 8 = .agg #[.int .i64 t.kd, .string t.nm.1, .string t.nm.2, x0, x1, x2, x3, x4, x5, x6, .slice A3 t.args.length c3] := r0
          rw [e0] at s0
          replace s0 : a.tmps[39]? = some (.agg #[.int .i64 t.kd, .string t.nm.1, .string t.nm.2, x0, x1, x2, x3, x4, x5, x6, .slice A3 t.args.length c3]) := s0
          refine gw_t rfl (wanted_plain rfl) 32 39 _ _ rfl (fun v w => by go_simp) s0 ?_
          with_reducible refine (CH.out w9 hb).mono ?_
          rintro e w3 ⟨rfl, hb3⟩
          exact ⟨_, rfl, _, rfl, hb3, rfl⟩
        case done =>
         intro a w9 v lo hi' hdef hsz hoth hb hj hap
         obtain ⟨_, hv4, _, _⟩ := hj 4 (by omega)
         obtain ⟨_, hv9, _, _⟩ := hj 9 (by omega)
         have ha := eq_puts hdef hsz hoth (fun i hi => (hj i hi).1)
         subst ha
         clear hj hoth hdef hsz hap
         change v 4 = _ at hv4
         change v 9 = _ at hv9
         simp only [puts, List.getD_cons_zero, List.getD_cons_succ, hv4, hv9]
         generalize v 0 = v0
         generalize v 1 = v1
         generalize v 2 = v2
         generalize v 3 = v3
         generalize v 5 = v5
         generalize v 6 = v6
         generalize v 7 = v7
         generalize v 8 = v8
         clear hv4 hv9
         simp only [Act.put, List.setIfInBounds_toArray, List.set_cons_zero, List.set_cons_succ]
         show wpList _ _ _ [_] _ _
         have HEN : Hid (Below wo.heap.size wo w9) := HEB.out.trans (hb.mono HEB.out.size)
         have hqq : (q != q) = false := by cases q <;> rfl
         clear hb CG CH
         go_wp2
         go_roundw
         case rel => exact ⟨i + 1, by omega, by go_num, HEN⟩
         case measure => simp [intOf]; omega
      · have hiT2 : i = TL := by omega
        have hn3 : ¬ (i : Int) < TL := by omega
        have HIQ : Hid (In (Has wo) wq) := (In.has wo).later hE.out.size
        have HBQ := hI (HBO.out.trans (hE.out.mono HBO.out.size))
        have hARQ := HAR.out.below (In.has wo) hE.out
        have CV : Hid (∀ X, Below wq.heap.size wq X → Calls Tryz.prog 34 #[.slice A1 TL c1] X (RetNs X (namesF 1 (subsTs ts)))) := fun X hX => by
         have h := variablesT ts A1 c1 X (Has wo) (HIQ.out.later hX.size) (hARQ.below HIQ.out hX) HNM.out HN1.out (by have := HTL.out; omega) (by have := HSL.out; omega)
         rw [HTE.out] at h; exact h
        have CVR : Hid (∀ X, Below wq.heap.size wq X → Calls Tryz.prog 35 #[.slice A1 TL c1] X (RetNs X (namesF 1 (subsTs ts)))) := fun X hX => by
         have h := variablesR 800 ts A1 c1 X (Has wo) (HIQ.out.later hX.size) (hARQ.below HIQ.out hX) HNL.out (by decide)
         rw [HTE.out] at h; exact h
        have CF : Hid (∀ X, Below wq.heap.size wq X → Calls Tryz.prog 36 #[.slice A1 TL c1] X (RetNs X (namesF 3 (subsTs ts)))) := fun X hX => by
         have h := functionsT ts A1 c1 X (Has wo) (HIQ.out.later hX.size) (hARQ.below HIQ.out hX) HNM.out HN1.out (by have := HTL.out; omega) (by have := HSL.out; omega)
         rw [HTE.out] at h; exact h
        have CFR : Hid (∀ X, Below wq.heap.size wq X → Calls Tryz.prog 37 #[.slice A1 TL c1] X (RetNs X (namesF 3 (subsTs ts)))) := fun X hX => by
         have h := functionsR 800 ts A1 c1 X (Has wo) (HIQ.out.later hX.size) (hARQ.below HIQ.out hX) HNL.out (by decide)
         rw [HTE.out] at h; exact h
        have HN1L : Hid ((namesF 1 (subsTs ts)).length ≤ 1000000) := Nat.le_trans (namesF_len _ _) (by have := HSL.out; omega)
        have HN3L : Hid ((namesF 3 (subsTs ts)).length ≤ 1000000) := Nat.le_trans (namesF_len _ _) (by have := HSL.out; omega)
        generalize namesF 1 (subsTs ts) = F1 at *
        generalize namesF 3 (subsTs ts) = F3 at *
        clear hARQ hE HAR HN1 HNM HSL HNL HIQ HTL hlt2 hiT2
        have hq0 : Below wq.heap.size wq wq := Below.refl _ _
        go_wp2_with fail
        refine (CV.out _ hq0).mono ?_
        rintro e wa ⟨va, rfl, hva, hba⟩
        have HVA : Hid (NsV wa (Has wa) F1 va) := hva.more (fun b hb => by rcases hb with h | ⟨_, h⟩; exact h.elim; exact h)
        have HQA := hI hba
        clear hva hba CV hq0
        go_wp2_with fail
        refine (CVR.out _ HQA.out).mono ?_
        rintro e wb ⟨vb, rfl, hvb, hbb⟩
        have HVB : Hid (NsV wb (Has wb) F1 vb) := hvb.more (fun b hb => by rcases hb with h | ⟨_, h⟩; exact h.elim; exact h)
        have HVA2 : Hid (NsV wb (Has wb) F1 va) := (HVA.out.below (In.has wa) hbb).more (fun b hb => Nat.lt_of_lt_of_le (In.has wa b hb) hbb.size)
        have HQB := hI (chain2 HQA.out hbb (Nat.le_refl _))
        clear hvb hbb CVR HVA HQA
        go_wp2_with fail
        refine (sameR F1 va vb wb (Has wb) HVA2.out HVB.out HN1L.out).mono ?_
        rintro e wc ⟨rfl, hbc⟩
        have HQC := hI (chain2 HQB.out hbc (Nat.le_refl _))
        clear hbc HQB HVA2 HVB
        go_wp2_with fail
        refine (CF.out _ HQC.out).mono ?_
        rintro e wd ⟨vd, rfl, hvd, hbd⟩
        have HVD : Hid (NsV wd (Has wd) F3 vd) := hvd.more (fun b hb => by rcases hb with h | ⟨_, h⟩; exact h.elim; exact h)
        have HQD := hI (chain2 HQC.out hbd (Nat.le_refl _))
        clear hvd hbd CF HQC
        go_wp2_with fail
        refine (CFR.out _ HQD.out).mono ?_
        rintro e we ⟨ve, rfl, hve, hbe⟩
        have HVE : Hid (NsV we (Has we) F3 ve) := hve.more (fun b hb => by rcases hb with h | ⟨_, h⟩; exact h.elim; exact h)
        have HVD2 : Hid (NsV we (Has we) F3 vd) := (HVD.out.below (In.has wd) hbe).more (fun b hb => Nat.lt_of_lt_of_le (In.has wd b hb) hbe.size)
        have HQE := hI (chain2 HQD.out hbe (Nat.le_refl _))
        clear hve hbe CFR HVD HQD
        go_wp2_with fail
        refine (sameR F3 vd ve we (Has we) HVD2.out HVE.out HN3L.out).mono ?_
        rintro e wf ⟨rfl, hbf⟩
        have HF : Hid (Below w.heap.size w wf) := HBQ.out.trans ((chain2 HQE.out hbf (Nat.le_refl _)).mono HBQ.out.size)
        clear hbf
        go_wp2
        go_ret
        exact ⟨rfl, HF.out⟩
theorem termLists_walk (l : List Rw) (A : Option Addr) (c : Nat) (w : World) (hlc : l.length ≤ c) (hcm : c ≤ maxLen) (hA : 0 < l.length → ∃ b o, A = some ⟨b, o, none⟩ ∧ Has w b ∧ RawsAt w (Has w) b o l) (ht : Tab w) :
 Calls Tryz.prog 5 #[.slice A l.length c] w (RetB w true) :=
 termListsW l A c w hlc hcm hA ht
end Go.Proofs.YtlocnkobancjmaaGreatDoor
