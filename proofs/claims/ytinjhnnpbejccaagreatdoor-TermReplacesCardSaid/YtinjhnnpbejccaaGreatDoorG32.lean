/- The program: Occurs. -/
import Derived.Test.YtinjhnnpbejccaaGreatDoorG19
import Derived.Test.YtinjhnnpbejccaaGreatDoorG24
import Derived.Test.YtinjhnnpbejccaaGreatDoorG23
import Derived.Test.YtinjhnnpbejccaaGreatDoorG31
import Derived.Test.YtinjhnnpbejccaaGreatDoorG28
import Derived.Test.YtinjhnnpbejccaaGreatDoorG27
import Derived.Deep.Upon
import Derived.Test.YtinjhnnpbejccaaGreatDoorG29
import Derived.Test.YtinjhnnpbejccaaGreatDoorG30
namespace Go.Proofs.YtinjhnnpbejccaaGreatDoor
open Go Go.RowKit
set_option linter.unusedVariables false
set_option maxHeartbeats 32000000
set_option maxRecDepth 100000
attribute [local go_sem] Oper.semAt_some
def NoI {w0 : World} {S : Nat → Prop} (a : Tm) (pre : List (Spotq w0 S)) : Prop := ∀ y ∈ pre, eqT a y.tm = false
def YesI {w0 : World} {S : Nat → Prop} (a : Tm) (pre : List (Spotq w0 S)) : Prop := ∃ y ∈ pre, eqT a y.tm = true
theorem occ_pre {a t : Tm} {L : List Tm} (h : L <+: subsT t) (hn : (L.any fun t => eqT a t) = true) : occT a t = true := by
 obtain ⟨r, hr⟩ := h
 unfold occT
 rw [← hr, List.any_append, hn]; rfl
theorem keepsO_below {W W' : World} (h : Below W.heap.size W W') : KeepsOthers W W' := ⟨h.size, fun k o hk _ => (h.block k (Array.getElem?_eq_some_iff.1 hk).1).trans hk⟩
theorem occursT (a t : Tm) (ca cs : List Value) (w : World) (S : Nat → Prop) (hS : In S w) (ha : TmAt w S a ca) (h : TmAt w S t cs) (hsh : ∀ u ∈ subsT t, NmOkq u) (hna : a.nodes ≤ 3000) (hn : t.nodes ≤ 3000) (hba : a.bd 10) :
 Calls Tryz.prog 38 #[vTm ca, vTm cs] w (RetB w (occT a t)) := by
 have ha' := ha
 have h' := h
 obtain ⟨z0, z1, z2, z3, z4, z5, z6, A9, c9, rfl, _, _⟩ := ha'.eleven
 obtain ⟨x0, x1, x2, x3, x4, x5, x6, A, c, rfl, _, _⟩ := h'.eleven
 have hA : Below w.heap.size w (((((w.alloc (.cells #[.int .i64 a.kd, .string a.nm.1, .string a.nm.2, z0, z1, z2, z3, z4, z5, z6, .slice A9 a.args.length c9] 35)).alloc (.cells #[.int .i64 t.kd, .string t.nm.1, .string t.nm.2, x0, x1, x2, x3, x4, x5, x6, .slice A t.args.length c] 35)).alloc (.cells #[.bool false] 4)).alloc (.cells #[.int .i64 t.kd, .string t.nm.1, .string t.nm.2, x0, x1, x2, x3, x4, x5, x6, .slice A t.args.length c] 35)).alloc (.cells #[.slice (some ⟨w.heap.size + 1 + 1 + 1, 0, none⟩) 1 1] 30)) := Below.alloc (Below.alloc (Below.alloc (Below.alloc (Below.alloc (Below.refl _ _) (Nat.le_refl _) _) (by simp) _) (by simp <;> omega) _) (by simp <;> omega) _) (by simp <;> omega) _
 have hz : (((((w.alloc (.cells #[.int .i64 a.kd, .string a.nm.1, .string a.nm.2, z0, z1, z2, z3, z4, z5, z6, .slice A9 a.args.length c9] 35)).alloc (.cells #[.int .i64 t.kd, .string t.nm.1, .string t.nm.2, x0, x1, x2, x3, x4, x5, x6, .slice A t.args.length c] 35)).alloc (.cells #[.bool false] 4)).alloc (.cells #[.int .i64 t.kd, .string t.nm.1, .string t.nm.2, x0, x1, x2, x3, x4, x5, x6, .slice A t.args.length c] 35)).alloc (.cells #[.slice (some ⟨w.heap.size + 1 + 1 + 1, 0, none⟩) 1 1] 30)).heap.size = w.heap.size + 5 := by simp
 have RA : (((((w.alloc (.cells #[.int .i64 a.kd, .string a.nm.1, .string a.nm.2, z0, z1, z2, z3, z4, z5, z6, .slice A9 a.args.length c9] 35)).alloc (.cells #[.int .i64 t.kd, .string t.nm.1, .string t.nm.2, x0, x1, x2, x3, x4, x5, x6, .slice A t.args.length c] 35)).alloc (.cells #[.bool false] 4)).alloc (.cells #[.int .i64 t.kd, .string t.nm.1, .string t.nm.2, x0, x1, x2, x3, x4, x5, x6, .slice A t.args.length c] 35)).alloc (.cells #[.slice (some ⟨w.heap.size + 1 + 1 + 1, 0, none⟩) 1 1] 30)).heap[w.heap.size]? = some (.cells #[.int .i64 a.kd, .string a.nm.1, .string a.nm.2, z0, z1, z2, z3, z4, z5, z6, .slice A9 a.args.length c9] 35 (0, 0)) := (Below.heap_alloc _ _ _ (by simp <;> omega)).trans ((Below.heap_alloc _ _ _ (by simp <;> omega)).trans ((Below.heap_alloc _ _ _ (by simp <;> omega)).trans ((Below.heap_alloc _ _ _ (by simp)).trans (heap_alloc_new w _))))
 have B1 : TB (((w.alloc (.cells #[.int .i64 a.kd, .string a.nm.1, .string a.nm.2, z0, z1, z2, z3, z4, z5, z6, .slice A9 a.args.length c9] 35)).alloc (.cells #[.int .i64 t.kd, .string t.nm.1, .string t.nm.2, x0, x1, x2, x3, x4, x5, x6, .slice A t.args.length c] 35)).alloc (.cells #[.bool false] 4)) (w.heap.size + 1) [.int .i64 t.kd, .string t.nm.1, .string t.nm.2, x0, x1, x2, x3, x4, x5, x6, .slice A t.args.length c] := (Below.heap_alloc _ _ _ (by simp)).trans (heap_new_at (by simp))
 have R2 : (((((w.alloc (.cells #[.int .i64 a.kd, .string a.nm.1, .string a.nm.2, z0, z1, z2, z3, z4, z5, z6, .slice A9 a.args.length c9] 35)).alloc (.cells #[.int .i64 t.kd, .string t.nm.1, .string t.nm.2, x0, x1, x2, x3, x4, x5, x6, .slice A t.args.length c] 35)).alloc (.cells #[.bool false] 4)).alloc (.cells #[.int .i64 t.kd, .string t.nm.1, .string t.nm.2, x0, x1, x2, x3, x4, x5, x6, .slice A t.args.length c] 35)).alloc (.cells #[.slice (some ⟨w.heap.size + 1 + 1 + 1, 0, none⟩) 1 1] 30)).heap[w.heap.size + 1 + 1]? = some (.cells #[.bool false] 4 (0, 0)) := (Below.heap_alloc _ _ _ (by simp <;> omega)).trans ((Below.heap_alloc _ _ _ (by simp)).trans (heap_new_at (by simp)))
 have R3 : (((((w.alloc (.cells #[.int .i64 a.kd, .string a.nm.1, .string a.nm.2, z0, z1, z2, z3, z4, z5, z6, .slice A9 a.args.length c9] 35)).alloc (.cells #[.int .i64 t.kd, .string t.nm.1, .string t.nm.2, x0, x1, x2, x3, x4, x5, x6, .slice A t.args.length c] 35)).alloc (.cells #[.bool false] 4)).alloc (.cells #[.int .i64 t.kd, .string t.nm.1, .string t.nm.2, x0, x1, x2, x3, x4, x5, x6, .slice A t.args.length c] 35)).alloc (.cells #[.slice (some ⟨w.heap.size + 1 + 1 + 1, 0, none⟩) 1 1] 30)).heap[w.heap.size + 1 + 1 + 1]? = some (.cells #[.int .i64 t.kd, .string t.nm.1, .string t.nm.2, x0, x1, x2, x3, x4, x5, x6, .slice A t.args.length c] 35 (0, 0)) := (Below.heap_alloc _ _ _ (by simp)).trans (heap_new_at (by simp))
 have R4 : (((((w.alloc (.cells #[.int .i64 a.kd, .string a.nm.1, .string a.nm.2, z0, z1, z2, z3, z4, z5, z6, .slice A9 a.args.length c9] 35)).alloc (.cells #[.int .i64 t.kd, .string t.nm.1, .string t.nm.2, x0, x1, x2, x3, x4, x5, x6, .slice A t.args.length c] 35)).alloc (.cells #[.bool false] 4)).alloc (.cells #[.int .i64 t.kd, .string t.nm.1, .string t.nm.2, x0, x1, x2, x3, x4, x5, x6, .slice A t.args.length c] 35)).alloc (.cells #[.slice (some ⟨w.heap.size + 1 + 1 + 1, 0, none⟩) 1 1] 30)).heap[w.heap.size + 1 + 1 + 1 + 1]? = some (.cells #[.slice (some ⟨w.heap.size + 1 + 1 + 1, 0, none⟩) 1 1] 30 (0, 0)) := heap_new_at (by simp)
 have k0 := TB.cell B1 0 _ rfl
 have k1 := TB.cell B1 1 _ rfl
 have k2 := TB.cell B1 2 _ rfl
 have k3 := TB.cell B1 3 _ rfl
 have k4 := TB.cell B1 4 _ rfl
 have k5 := TB.cell B1 5 _ rfl
 have k6 := TB.cell B1 6 _ rfl
 have k7 := TB.cell B1 7 _ rfl
 have k8 := TB.cell B1 8 _ rfl
 have k9 := TB.cell B1 9 _ rfl
 have k10 := TB.cell B1 10 _ rfl
 have hST : ∀ b, (S b ∨ b = w.heap.size + 1 + 1 + 1) → b < w.heap.size + 5 ∧ ¬ (fun _ : Nat => False) b := fun b hb => ⟨by
  rcases hb with hb | hb
  · have := hS b hb; omega
  · omega, fun h => h⟩
 have hAA : ArgsAt (((((w.alloc (.cells #[.int .i64 a.kd, .string a.nm.1, .string a.nm.2, z0, z1, z2, z3, z4, z5, z6, .slice A9 a.args.length c9] 35)).alloc (.cells #[.int .i64 t.kd, .string t.nm.1, .string t.nm.2, x0, x1, x2, x3, x4, x5, x6, .slice A t.args.length c] 35)).alloc (.cells #[.bool false] 4)).alloc (.cells #[.int .i64 t.kd, .string t.nm.1, .string t.nm.2, x0, x1, x2, x3, x4, x5, x6, .slice A t.args.length c] 35)).alloc (.cells #[.slice (some ⟨w.heap.size + 1 + 1 + 1, 0, none⟩) 1 1] 30)) (fun b => S b ∨ b = w.heap.size + 1 + 1 + 1) [t] (some ⟨w.heap.size + 1 + 1 + 1, 0, none⟩) 1 := by
  refine ⟨Nat.le_refl _, fun _ => ⟨_, _, rfl, ⟨.inr rfl, _, _, R3⟩, ?_⟩⟩
  unfold TmsAt
  refine ⟨⟨_, (h.below hS hA).more fun b hb => .inl hb, fun j u hj => TB.cell (g := w.heap.size + 1 + 1 + 1) R3 j u hj⟩, ?_⟩
  unfold TmsAt; trivial
 have hsub : subsTs [t] = subsT t := by unfold subsTs; rw [show subsTs [] = [] from by unfold subsTs; rfl, List.append_nil]
 have STP := subStopsq 2 (((((w.alloc (.cells #[.int .i64 a.kd, .string a.nm.1, .string a.nm.2, z0, z1, z2, z3, z4, z5, z6, .slice A9 a.args.length c9] 35)).alloc (.cells #[.int .i64 t.kd, .string t.nm.1, .string t.nm.2, x0, x1, x2, x3, x4, x5, x6, .slice A t.args.length c] 35)).alloc (.cells #[.bool false] 4)).alloc (.cells #[.int .i64 t.kd, .string t.nm.1, .string t.nm.2, x0, x1, x2, x3, x4, x5, x6, .slice A t.args.length c] 35)).alloc (.cells #[.slice (some ⟨w.heap.size + 1 + 1 + 1, 0, none⟩) 1 1] 30)) (fun b => S b ∨ b = w.heap.size + 1 + 1 + 1) (fun _ => False) (w.heap.size + 5) hST (by rw [hz]; omega) (fun b hb => hb.elim) [t] (some ⟨w.heap.size + 1 + 1 + 1, 0, none⟩) 1 (w.heap.size + 1 + 1 + 1 + 1) R4 ⟨by omega, fun h => h⟩ hAA (by rw [hsub]; exact hsh) (fun x hx => by rw [List.mem_singleton] at hx; rw [hx]; exact hn) (by simp)
 rw [hsub] at STP
 have HPA : Hid (TmP (((((w.alloc (.cells #[.int .i64 a.kd, .string a.nm.1, .string a.nm.2, z0, z1, z2, z3, z4, z5, z6, .slice A9 a.args.length c9] 35)).alloc (.cells #[.int .i64 t.kd, .string t.nm.1, .string t.nm.2, x0, x1, x2, x3, x4, x5, x6, .slice A t.args.length c] 35)).alloc (.cells #[.bool false] 4)).alloc (.cells #[.int .i64 t.kd, .string t.nm.1, .string t.nm.2, x0, x1, x2, x3, x4, x5, x6, .slice A t.args.length c] 35)).alloc (.cells #[.slice (some ⟨w.heap.size + 1 + 1 + 1, 0, none⟩) 1 1] 30)) (Has (((((w.alloc (.cells #[.int .i64 a.kd, .string a.nm.1, .string a.nm.2, z0, z1, z2, z3, z4, z5, z6, .slice A9 a.args.length c9] 35)).alloc (.cells #[.int .i64 t.kd, .string t.nm.1, .string t.nm.2, x0, x1, x2, x3, x4, x5, x6, .slice A t.args.length c] 35)).alloc (.cells #[.bool false] 4)).alloc (.cells #[.int .i64 t.kd, .string t.nm.1, .string t.nm.2, x0, x1, x2, x3, x4, x5, x6, .slice A t.args.length c] 35)).alloc (.cells #[.slice (some ⟨w.heap.size + 1 + 1 + 1, 0, none⟩) 1 1] 30))) a w.heap.size 0 [.int .i64 a.kd, .string a.nm.1, .string a.nm.2, z0, z1, z2, z3, z4, z5, z6, .slice A9 a.args.length c9]) := TB.p RA ((ha.below hS hA).more fun b hb => Nat.lt_of_lt_of_le (hS b hb) hA.size) (by show _ < _; rw [hz]; omega)
 unfold vTm
 have HA := hI hA
 have HZ := hI hz
 have HR2 := hI R2
 have HSS : Hid (∀ q, (S q ∨ q = w.heap.size + 1 + 1 + 1) → q < (((((w.alloc (.cells #[.int .i64 a.kd, .string a.nm.1, .string a.nm.2, z0, z1, z2, z3, z4, z5, z6, .slice A9 a.args.length c9] 35)).alloc (.cells #[.int .i64 t.kd, .string t.nm.1, .string t.nm.2, x0, x1, x2, x3, x4, x5, x6, .slice A t.args.length c] 35)).alloc (.cells #[.bool false] 4)).alloc (.cells #[.int .i64 t.kd, .string t.nm.1, .string t.nm.2, x0, x1, x2, x3, x4, x5, x6, .slice A t.args.length c] 35)).alloc (.cells #[.slice (some ⟨w.heap.size + 1 + 1 + 1, 0, none⟩) 1 1] 30)).heap.size) := fun q hq => by
  rw [hz]
  rcases hq with hq | hq
  · have := hS q hq; omega
  · omega
 have HBA := hI hba
 have HNA := hI hna
 clear h h' ha ha' hST hAA hsub RA R2 R3 R4 hA hS hn B1 hz hsh hba hna
 refine (callsIn_wide (n := 3)).1 ?_
 refine callsIn_of_wp_marks Tryz.func38 rfl trivial ?_
 simp only [Tryz.ntmps38, List.size_toArray, List.length_cons, List.length_nil, Nat.reduceAdd, Nat.reduceSub, Array.replicate_succ, Array.replicate_zero, List.push_toArray, List.append_toArray, List.nil_append, List.cons_append]
 gi_wp2_with (refine ⟨trivial, ?_⟩; gi_at_call 72; refine (callsIn_wide.2 (subtermsT _ _ _ _)).mono ?_; rintro e w' ⟨rfl, rfl⟩)
 generalize (((((w.alloc (.cells #[.int .i64 a.kd, .string a.nm.1, .string a.nm.2, z0, z1, z2, z3, z4, z5, z6, .slice A9 a.args.length c9] 35)).alloc (.cells #[.int .i64 t.kd, .string t.nm.1, .string t.nm.2, x0, x1, x2, x3, x4, x5, x6, .slice A t.args.length c] 35)).alloc (.cells #[.bool false] 4)).alloc (.cells #[.int .i64 t.kd, .string t.nm.1, .string t.nm.2, x0, x1, x2, x3, x4, x5, x6, .slice A t.args.length c] 35)).alloc (.cells #[.slice (some ⟨w.heap.size + 1 + 1 + 1, 0, none⟩) 1 1] 30)) = Y at *
 refine wpIn_rangeFunc_ownF rfl (by decide) (gf := 100) (lb := #[.pointer (some ⟨w.heap.size + 1 + 1 + 1 + 1, 0, none⟩)]) rfl trivial (enters_of Tryz.func100 (by kernel_rfl) rfl)
  STP KeepC.trans (keepC_put (B := Y.heap.size) (by have := HZ.out; omega)) (Below.refl _ _) (fun _ => rfl)
  (fun pre W => NoI a pre ∧ Below Y.heap.size Y W)
  (fun c pre W => c = .ret ∧ YesI a pre ∧ Below w.heap.size w W ∧ W.heap[w.heap.size + 1 + 1]? = some (.cells #[.bool true] 4 (0, 0)))
  ?hI ?hIx ⟨fun y hy => by simp at hy, Below.refl _ _⟩
  (fun y => { tmps := #[.agg #[.int .i64 a.kd, .string a.nm.1, .string a.nm.2, z0, z1, z2, z3, z4, z5, z6, .slice A9 a.args.length c9], .agg #[.int .i64 t.kd, .string t.nm.1, .string t.nm.2, x0, x1, x2, x3, x4, x5, x6, .slice A t.args.length c], .pointer (some ⟨w.heap.size, 0, none⟩), .pointer (some ⟨w.heap.size + 1, 0, none⟩), .pointer (some ⟨w.heap.size + 1 + 1, 0, none⟩), .pointer (some ⟨y.1.1, y.1.2.1, none⟩), .agg #[.int .i64 t.kd, .string t.nm.1, .string t.nm.2, x0, x1, x2, x3, x4, x5, x6, .slice A t.args.length c], .slice (some ⟨w.heap.size + 1 + 1 + 1, 0, none⟩) 1 1, .func (.func 100) #[] #[.pointer (some ⟨w.heap.size + 1 + 1 + 1 + 1, 0, none⟩)], .pointer (some ⟨y.1.1, y.1.2.1, none⟩), undef, undef], defers := [] }) ?assign ?body ?odone ?stop
 case hI => exact OwnFrom.and (fun s A B row hs _ _ => hs) (ownFrom_below (Nat.le_refl _) (Nat.le_refl _))
 case hIx =>
  intro c s A B row hs hg hr
  refine ⟨hs.1, hs.2.1, hs.2.2.1.grown hg (hs.2.2.1.size) (fun k e => by have := (hr k e).1; have := HZ.out; omega), (hg.block _ (lt_row hs.2.2.2) (fun e => by have := (hr _ e.symm).1; have := HZ.out; omega)).trans hs.2.2.2⟩
 case assign =>
  intro l y W K hK
  gi_wp2
  exact hK
 case body =>
  rintro l pre ⟨⟨b, k, u⟩, cs, hP, hsu⟩ W ⟨h1, h2⟩ _
  have hlt : ∀ q, (S q ∨ q = w.heap.size + 1 + 1 + 1) → q < Y.heap.size := HSS.out
  have hPA := HPA.out
  have EQ := hI (areEqualT 10 (by decide) a u w.heap.size 0 b k _ cs W (Has W) (In.has W) (hPA.keep (fun q hq => Nat.lt_of_lt_of_le hq h2.size) (fun q hq => h2.block q hq)) (hP.keep (fun q hq => Nat.lt_of_lt_of_le (hlt q hq) h2.size) (fun q hq => h2.block q (hlt q hq))) HBA.out hsu.2 HNA.out)
  have HHH := hI ((h2.block _ (lt_row HR2.out)).trans HR2.out)
  have HH1 := hI h1
  have HH2 := hI h2
  have HW := hI (HA.out.trans (h2.mono HA.out.size))
  have HP := hI hP
  have HSU := hI hsu
  clear h1 h2 hlt hPA
  cases hv : eqT a u with
  | false =>
   have HI1 : Hid (NoI a (pre ++ [(⟨(b, k, u), cs, hP, hsu⟩ : Spotq Y fun b => S b ∨ b = w.heap.size + 1 + 1 + 1)])) := fun y hy => by
    rcases List.mem_append.1 hy with hy | hy
    · exact HH1.out y hy
    · rw [List.mem_singleton] at hy
      rw [hy]; exact hv
   rw [hv] at EQ
   gi_wp2_with (refine ⟨trivial, ?_⟩; gi_at_call 81; refine (callsIn_wide.2 EQ.out).mono ?_; rintro e w2 ⟨rfl, hb2⟩)
   exact ⟨keepsO_below hb2, KeepC.of_below hb2, HI1.out, HH2.out.trans (hb2.mono HH2.out.size)⟩
  | true =>
   have HI1 : Hid (YesI a (pre ++ [(⟨(b, k, u), cs, hP, hsu⟩ : Spotq Y fun b => S b ∨ b = w.heap.size + 1 + 1 + 1)])) := ⟨_, List.mem_append.2 (.inr (List.mem_singleton.2 rfl)), hv⟩
   rw [hv] at EQ
   gi_wp2_with (refine ⟨trivial, ?_⟩; gi_at_call 81; refine (callsIn_wide.2 EQ.out).mono ?_; rintro e w2 ⟨rfl, hb2⟩; have HQ2 := hI ((hb2.block _ (lt_row HHH.out)).trans HHH.out); have e0 := cell1 HQ2.out; have f0 : w2.frozen? ⟨w.heap.size + 1 + 1, 0, none⟩ = false := (by simp [World.frozen?, HQ2.out]))
   have e1 : (w2.setCell ⟨w.heap.size + 1 + 1, 0, none⟩ (.bool true)).heap[w.heap.size + 1 + 1]? = some (.cells #[.bool true] 4 (0, 0)) := by
    rw [setCell_eq_setRow w2 _ 0 _ _ (0, 0) _ HQ2.out]; exact setRow_heap _ _ _ _ _ _ HQ2.out
   exact ⟨(keepsO_below hb2).trans (KeepsOthers.setCell _ _ _), rfl, HI1.out, (HW.out.trans (hb2.mono HW.out.size)).setCell (p := ⟨w.heap.size + 1 + 1, 0, none⟩) (by show w.heap.size ≤ w.heap.size + 1 + 1; omega) _, e1⟩
 case odone =>
  rintro D xs W hD hxs ⟨h1, h2⟩ hK
  have hh := (h2.block _ (lt_row HR2.out)).trans HR2.out
  have e0 := cell1 hh
  have f0 : W.frozen? ⟨w.heap.size + 1 + 1, 0, none⟩ = false := by simp [World.frozen?, hh]
  have e1 : (W.setCell ⟨w.heap.size + 1 + 1, 0, none⟩ (.bool false)).heap[w.heap.size + 1 + 1]? = some (.cells #[.bool false] 4 (0, 0)) := by
   rw [setCell_eq_setRow W _ 0 _ _ (0, 0) _ hh]; exact setRow_heap _ _ _ _ _ _ hh
  have HK2 := hI ((KeepsOthers.setCell W ⟨w.heap.size + 1 + 1, 0, none⟩ (.bool false)).same D _ hK rfl)
  have HBB := hI ((HA.out.trans (h2.mono HA.out.size)).setCell (p := ⟨w.heap.size + 1 + 1, 0, none⟩) (by show w.heap.size ≤ w.heap.size + 1 + 1; omega) (.bool false))
  have hnv : occT a t = false := by
   unfold occT
   rw [← hxs, List.any_map, List.any_eq_false]
   exact fun y hy => by simpa using h1 y hy
  have HN := hI hnv
  have HE1 := hI e1
  clear h1 h2 hh hxs hK e1 hnv
  gi_wp2
  refine ⟨by simp, .inl ⟨_, _, rfl, run_takeDeferred HK2.out, ?_⟩⟩
  have e2 := cell_kept (cell1 HE1.out) (grownBy_putObj' _ D (.deferred none)) (fun r e => by cases e; exact ⟨_, HK2.out, rfl⟩)
  have hsz := HZ.out
  refine ⟨.bool false, ?_, by rw [HN.out], HBB.out.trans (below_put _ (by omega))⟩
  simp [results, Tryz.f38, go_sem, e2]
 case stop =>
  rintro D c pre W hD hSp ⟨rfl, ⟨y, hy, hyv⟩, h2, h3⟩ hK
  have hnv : occT a t = true := by
   refine occ_pre hSp ?_
   rw [List.any_map, List.any_eq_true]
   exact ⟨y, hy, by simpa using hyv⟩
  have HN := hI hnv
  have HBB := hI h2
  have HE1 := hI h3
  have HK2 := hI hK
  clear h2 h3 hK hnv hyv hSp
  gi_wp2
  refine ⟨by simp, .inl ⟨_, _, rfl, run_takeDeferred HK2.out, ?_⟩⟩
  have e2 := cell_kept (cell1 HE1.out) (grownBy_putObj' _ D (.deferred none)) (fun r e => by cases e; exact ⟨_, HK2.out, rfl⟩)
  have hsz := HZ.out
  refine ⟨.bool true, ?_, by rw [HN.out], HBB.out.trans (below_put _ (by omega))⟩
  simp [results, Tryz.f38, go_sem, e2]
section
variable {Q : Exit → Act → World → Prop}
theorem wp_region_growMT2 {id : Nat} {a0 : Act} {w0 : World} {l : List Oper} (n m : Nat) (hm : Tryz.prog.follows .mixedOrders = true) (hB : invB .any l.toArray (n + m) = true)
 (d : Nat → Nat) (R : Nat → Value → Nat → Nat → World → Prop) (hR : ∀ i x l m w w', R i x l m w → m ≤ w.heap.size → Below w.heap.size w w' → R i x l m w')
 (hd : ∀ i j, i < n → j < n → d i = d j → i = j) (hds : ∀ i, i < n → d i < a0.tmps.size)
 (late : List Nat) (hlate : ((List.range n).all fun i => late.contains i || (Region.waitsFor .any l.toArray n i || (List.range n).any fun j => Region.waitsFor .any l.toArray n j && Region.waitsFor .any l.toArray j i)) = true)
 (kb kv : Nat → Nat) (hkb : ∀ s, s < m → kb s < n) (hkv : ∀ s, s < m → kv s < n) (hinj : ∀ s t, s < m → t < m → kb s = kb t → s = t)
 (hw0 : ((List.range m).all fun s => Region.waitsFor .any l.toArray (n + s) (kb s) && Region.waitsFor .any l.toArray (n + s) (kv s) && (List.range s).all fun r => Region.waitsFor .any l.toArray (n + s) (n + r)) = true)
 (hos : ∀ s, s < m → ∃ os, l[n + s]? = some os ∧ os.guard = none ∧ os.dst = none ∧ os.op = .store 35 (.tmp (d (kb s))) (.tmp (d (kv s))))
 (hRb : ∀ s, s < m → ∀ v lo hi w, R (kb s) v lo hi w → LTx v lo hi w) (hRv : ∀ s, s < m → ∀ v lo hi w, R (kv s) v lo hi w → ∃ p, v = vTm p ∧ One11 p)
 (step : ∀ i, i < n → ∀ (a : Act) (w : World) (v : Nat → Value) (lo hi : Nat → Nat), (∀ s, (∀ j, j < n → d j ≠ s) → a.tmps[s]? = a0.tmps[s]?) → Below w0.heap.size w0 w →
   (∀ j, j < n → Region.waitsFor .any l.toArray i j = true → a.tmps[d j]? = some (v j) ∧ R j (v j) (lo j) (hi j) w ∧ w0.heap.size ≤ lo j ∧ hi j ≤ w.heap.size) →
   wpOp Tryz.prog l.toArray Q i (fun a' w' => ∃ x, a' = a.put (some (d i)) x ∧ Below w.heap.size w w' ∧ R i x w.heap.size w'.heap.size w') a w)
 (stepL : ∀ i, i < n → late.contains i = true → ∀ (a : Act) (w1 w : World) (v : Nat → Value) (lo hi : Nat → Nat), (∀ s, (∀ j, j < n → d j ≠ s) → a.tmps[s]? = a0.tmps[s]?) → Below w0.heap.size w0 w1 →
   (∀ b, b < w0.heap.size → w.heap[b]? = w1.heap[b]?) → w.heap.size = w1.heap.size →
   (∀ j, j < n → Region.waitsFor .any l.toArray i j = true → a.tmps[d j]? = some (v j) ∧ R j (v j) (lo j) (hi j) w1) →
   wpOp Tryz.prog l.toArray Q i (fun a' w' => ∃ x w1', a' = a.put (some (d i)) x ∧ ((w1' = w1 ∧ w' = w) ∨ (∃ o, w1' = w1.alloc o ∧ w' = w.alloc o)) ∧ R i x w1.heap.size w1'.heap.size w1') a w)
 (done : ∀ (a : Act) (w : World) (v : Nat → Value) (lo hi : Nat → Nat) (ps : Nat → List Value), a.defers = a0.defers → a.tmps.size = a0.tmps.size → (∀ s, (∀ j, j < n → d j ≠ s) → a.tmps[s]? = a0.tmps[s]?) → Below w0.heap.size w0 w →
   (∀ j, j < n → a.tmps[d j]? = some (v j) ∧ R j (v j) (lo j) (hi j) w ∧ w0.heap.size ≤ lo j ∧ hi j ≤ w.heap.size) → (∀ i j, i < n → j < n → i ≠ j → hi i ≤ lo j ∨ hi j ≤ lo i) →
   (∀ s, s < m → v (kb s) = .pointer (some ⟨lo (kb s), 0, none⟩) ∧ TB w (lo (kb s)) zT) → (∀ s, s < m → v (kv s) = vTm (ps s) ∧ One11 (ps s)) →
   wpList Tryz.prog l.toArray Q (l.drop (n + m)) a (stW (stT lo kb ps) w m)) :
 (Code.region id l.toArray true).wp Tryz.prog Q a0 w0 := by
 have hn : n + m < l.length := by
  simp only [invB, Bool.and_eq_true, decide_eq_true_eq] at hB
  simpa using hB.1.1.1.1
 have hwait : ∀ i, i < n → late.contains i = false → Region.waitsFor .any l.toArray n i = true ∨ ∃ j, j < n ∧ Region.waitsFor .any l.toArray n j = true ∧ Region.waitsFor .any l.toArray j i = true := fun i hi hl => by
  have h1 := List.all_eq_true.1 hlate i (List.mem_range.2 hi)
  rw [hl, Bool.false_or, Bool.or_eq_true] at h1
  rcases h1 with h1 | h1
  · exact .inl h1
  · obtain ⟨j, hj, h2⟩ := List.any_eq_true.1 h1
    rw [Bool.and_eq_true] at h2
    exact .inr ⟨j, List.mem_range.1 hj, h2⟩
 have hws : ∀ s, s < m → (Region.waitsFor .any l.toArray (n + s) (kb s) = true ∧ Region.waitsFor .any l.toArray (n + s) (kv s) = true) ∧ ∀ r, r < s → Region.waitsFor .any l.toArray (n + s) (n + r) = true := fun s hs => by
  have h1 := List.all_eq_true.1 hw0 s (List.mem_range.2 hs)
  rw [Bool.and_eq_true, Bool.and_eq_true] at h1
  exact ⟨h1.1, fun r hr => List.all_eq_true.1 h1.2 r (List.mem_range.2 hr)⟩
 refine wp_region_inv (n + m) hm hB (fun listed a w => listed.size = l.length ∧ (∀ j k, j < n → k < n → Region.waitsFor .any l.toArray j k = true → listed.getD j true = true → listed.getD k true = true) ∧ ∃ t, t ≤ m ∧ (∀ s, s < m → listed.getD (n + s) true = decide (s < t)) ∧
  ∃ v lo hi w1 ps, Grow n d R a0 w0 listed a w1 v lo hi ∧ StOkT w0 n kb kv l.toArray listed t v lo ps w1 ∧ w = stW (stT lo kb ps) w1 t) ?_ ?_ ?_
 · have hf : ∀ i, i < l.length → (Array.replicate l.length false).getD i true = false := fun i hlt => by simp [hlt]
   refine ⟨by simp, fun j k hj hk _ hl => (by rw [hf j (by omega)] at hl; cases hl), 0, Nat.zero_le _, fun s hs => by rw [hf _ (by omega)]; rfl, fun _ => undef, fun _ => 0, fun _ => 0, w0.drew, fun _ => [], ⟨rfl, rfl, fun _ _ => rfl, (Below.refl _ _).drew, fun i hi hl => ?_, fun i j hi hj _ hl => ?_⟩, ⟨fun s hs => absurd hs (Nat.not_lt_zero _), fun s hs => absurd hs (Nat.not_lt_zero _), fun s hs => absurd hs (Nat.not_lt_zero _)⟩, rfl⟩
   · rw [hf i (by omega)] at hl; cases hl
   · rw [hf i (by omega)] at hl; cases hl
 · rintro listed a w i hi hr ⟨hsz, hcz, t, htm, hst, v, lo, hi', w1, ps, hG, hS, rfl⟩
   obtain ⟨hun, oi, hoi, hall⟩ := mem_ready.1 hr
   have hwl : ∀ j, j < l.length → Region.waitsFor .any l.toArray i j = true → listed.getD j true = true := fun j hj hw => by
    obtain ⟨oj, hoj, e, he, hbn, hon⟩ := Region.waitsFor_spec hw
    have : oj = oi := Option.some.inj (hoj.symm.trans hoi)
    subst this
    have hlj := hall e he hbn
    rw [hon] at hlj
    have hjl : j < listed.size := by omega
    simp [hjl] at hlj ⊢
    exact hlj
   have hgrow : ∀ k, listed.getD k true = true → (listed.setIfInBounds i true).getD k true = true := fun k hk => by
    by_cases e : i = k
    · subst e; exact set_getD
    · rw [Go.getD_set_ne true e]; exact hk
   have hcz2 : ∀ j k, j < n → k < n → Region.waitsFor .any l.toArray j k = true → (listed.setIfInBounds i true).getD j true = true → (listed.setIfInBounds i true).getD k true = true := fun j k hj hk hw hl => by
    by_cases e : i = j
    · subst e; exact hgrow k (hwl k (by omega) hw)
    · rw [Go.getD_set_ne true e] at hl
      exact hgrow k (hcz j k hj hk hw hl)
   have hltF : ∀ s, s < t → (stT lo kb ps s).1 < w1.heap.size ∧ w0.heap.size ≤ (stT lo kb ps s).1 := fun s hs => by
    have hb := (hS.box s hs).2
    have hl := hS.wt s hs (kb s) (hkb s (by omega)) (hws s (by omega)).1.1
    exact ⟨hb.lt, (hG.slot (kb s) (hkb s (by omega)) hl).2.2.1⟩
   by_cases hin : i < n
   · have hstl : ∀ s, s < m → (listed.setIfInBounds i true).getD (n + s) true = decide (s < t) := fun s hs => by
      rw [Go.getD_set_ne true (by omega)]; exact hst s hs
     have hwt' : ∀ s, s < t → ∀ j, j < n → Region.waitsFor .any l.toArray (n + s) j = true → (listed.setIfInBounds i true).getD j true = true := fun s hs j hj hw => hgrow j (hS.wt s hs j hj hw)
     have hneb : ∀ s, s < t → kb s ≠ i := fun s hs e => by
      have := hS.wt s hs (kb s) (hkb s (by omega)) (hws s (by omega)).1.1
      rw [e, hun] at this; cases this
     have hnev : ∀ s, s < t → kv s ≠ i := fun s hs e => by
      have := hS.wt s hs (kv s) (hkv s (by omega)) (hws s (by omega)).1.2
      rw [e, hun] at this; cases this
     by_cases ht0 : t = 0
     · subst ht0
       refine wpOp_mono ?_ (step i hin a w1 v lo hi' hG.other hG.below (fun j hj hw => ?_))
       · rintro a' w' ⟨x, rfl, hb, hx⟩
         exact ⟨by simpa using hsz, hcz2, 0, Nat.zero_le _, hstl, _, _, _, w', ps, hG.step hR hd hds hin (by omega) hun hb hx, ⟨fun s hs => absurd hs (Nat.not_lt_zero _), fun s hs => absurd hs (Nat.not_lt_zero _), fun s hs => absurd hs (Nat.not_lt_zero _)⟩, rfl⟩
       · obtain ⟨h1, h2, h3, h4, h5⟩ := hG.slot j hj (hwl j (by omega) hw)
         exact ⟨h1, h2, h3, h5⟩
     · have hcl : late.contains i = true := by
        cases hc : late.contains i with
        | true => rfl
        | false =>
         have : listed.getD i true = true := by
          rcases hwait i hin hc with h | ⟨j, hj, h1, h2⟩
          · exact hS.wt 0 (by omega) i hin h
          · exact hcz j i hj hin h2 (hS.wt 0 (by omega) j hj h1)
         rw [hun] at this; cases this
       refine wpOp_mono ?_ (stepL i hin hcl a w1 (stW (stT lo kb ps) w1 t) v lo hi' hG.other hG.below (fun b hb => stW_other _ _ _ _ (fun s hs => by have := (hltF s hs).2; omega)) (stW_size _ _ _) (fun j hj hw => ?_))
       · rintro a' w' ⟨x, w1', rfl, hor, hx⟩
         have hb1 : Below w1.heap.size w1 w1' := by
          rcases hor with ⟨rfl, _⟩ | ⟨o, rfl, _⟩
          · exact Below.refl _ _
          · exact Below.alloc (Below.refl _ _) (Nat.le_refl _) _
         refine ⟨by simpa using hsz, hcz2, t, htm, hstl, _, _, _, w1', ps, hG.step hR hd hds hin (by omega) hun hb1 hx, ⟨fun s hs => ?_, fun s hs => ?_, hwt'⟩, ?_⟩
         · have h1 := hS.box s hs
           simp only [if_neg (hneb s hs)]
           exact ⟨h1.1, h1.2.keep hb1⟩
         · have h1 := hS.val s hs
           simp only [if_neg (hnev s hs)]
           exact h1
         · have hc : ∀ w, stW (stT (fun j => if j = i then w1.heap.size else lo j) kb ps) w t = stW (stT lo kb ps) w t := fun w => stW_congr w t fun s hs => by
            unfold stT
            simp only [if_neg (hneb s hs)]
           rw [hc]
           rcases hor with ⟨rfl, rfl⟩ | ⟨o, rfl, rfl⟩
           · rfl
           · exact (stW_alloc _ _ _ _ (fun s hs => (hltF s hs).1)).symm
       · obtain ⟨h1, h2, _, _, _⟩ := hG.slot j hj (hwl j (by omega) hw)
         exact ⟨h1, h2⟩
   · obtain ⟨s, rfl⟩ : ∃ s, i = n + s := ⟨i - n, by omega⟩
     have hsm : s < m := by omega
     have hts : ¬ s < t := fun h => by
      have := hst s hsm
      rw [hun, decide_eq_true h] at this; cases this
     have hst2 : s = t := by
      rcases Nat.lt_or_ge t s with h | h
      · have h1 := hwl (n + t) (by omega) ((hws s hsm).2 t h)
        rw [hst t (by omega)] at h1
        have := of_decide_eq_true h1
        omega
      · omega
     subst hst2
     have hlb := hwl (kb s) (by have := hkb s hsm; omega) (hws s hsm).1.1
     have hlv := hwl (kv s) (by have := hkv s hsm; omega) (hws s hsm).1.2
     obtain ⟨sb, rb, gb, _, _⟩ := hG.slot (kb s) (hkb s hsm) hlb
     obtain ⟨sv, rv, _, _, _⟩ := hG.slot (kv s) (hkv s hsm) hlv
     obtain ⟨eb, bb, lb⟩ := hRb s hsm _ _ _ _ rb
     obtain ⟨p, ev, hp⟩ := hRv s hsm _ _ _ _ rv
     obtain ⟨os, ho1, ho2, ho3, ho4⟩ := hos s hsm
     have hap : ∀ r, r < s → (stT lo kb ps r).1 ≠ lo (kb s) := fun r hr e => by
      have hlr := hS.wt r hr (kb r) (hkb r (by omega)) (hws r (by omega)).1.1
      obtain ⟨_, rr, _, _, _⟩ := hG.slot (kb r) (hkb r (by omega)) hlr
      obtain ⟨_, _, lr⟩ := hRb r (by omega) _ _ _ _ rr
      have hne : kb r ≠ kb s := fun e => by have := hinj r s (by omega) hsm e; omega
      have e' : lo (kb r) = lo (kb s) := e
      rcases hG.apart (kb r) (kb s) (hkb r (by omega)) (hkb s hsm) hne hlr hlb with h | h <;> omega
     have bb2 : TB (stW (stT lo kb ps) w1 s) (lo (kb s)) zT := (stW_other _ _ _ _ hap).trans bb
     have hosl : l.toArray[n + s]? = some os := by simpa using ho1
     refine wpOp_step hosl fun K' hK' => ?_
     rw [if_pos (wanted_plain ho2)]
     refine wp_store_row 35 _ _ ho4 (lo (kb s)) p.toArray ((eval_of sb).trans eb) ((eval_of sv).trans ev) _ _ bb2 (by rw [List.size_toArray, hp.1]; kernel_rfl) (by rw [List.size_toArray, List.size_toArray, hp.1]; rfl) ?one ?_
     case one =>
      rw [Array.all_eq_true_iff_forall_mem]
      exact fun u hu => hp.2 u (by simpa using hu)
     have hset : ∀ j, j < n → (listed.setIfInBounds (n + s) true).getD j true = listed.getD j true := fun j hj => Go.getD_set_ne true (by omega)
     refine hK' _ _ ⟨by simpa using hsz, hcz2, s + 1, by omega, fun r hr => ?_, v, lo, hi', w1, fun r => if r = s then p else ps r, ?_, ⟨fun r hr => ?_, fun r hr => ?_, fun r hr j hj hw => ?_⟩, ?_⟩
     · by_cases e : r = s
       · subst e; rw [set_getD, decide_eq_true (by omega)]
       · rw [Go.getD_set_ne true (by omega), hst r hr]
         by_cases h2 : r < s
         · rw [decide_eq_true h2, decide_eq_true (by omega)]
         · rw [decide_eq_false h2, decide_eq_false (by omega)]
     · rw [ho3]
       exact ⟨hG.defers, hG.size, hG.other, hG.below, fun j hj hl => hG.slot j hj (by rw [← hset j hj]; exact hl), fun j k hj hk hne hl hl2 => hG.apart j k hj hk hne (by rw [← hset j hj]; exact hl) (by rw [← hset k hk]; exact hl2)⟩
     · by_cases e : r = s
       · subst e; exact ⟨eb, bb⟩
       · exact hS.box r (by omega)
     · by_cases e : r = s
       · subst e; simp only [if_true]; exact ⟨ev, hp⟩
       · simp only [if_neg e]; exact hS.val r (by omega)
     · by_cases e : r = s
       · subst e; exact hgrow j (hwl j (by omega) hw)
       · exact hgrow j (hS.wt r (by omega) j hj hw)
     · show (stW (stT lo kb ps) w1 s).setRow _ _ = (stW (stT lo kb fun r => if r = s then p else ps r) w1 s).setRow _ _
       rw [stW_congr (f := stT lo kb ps) (f' := stT lo kb fun r => if r = s then p else ps r) w1 s (fun r hr => by unfold stT; simp only [if_neg (show ¬ r = s by omega)])]
       unfold stT
       simp only [if_true]
 · rintro a w ⟨hsz, _, t, htm, hst, v, lo, hi', w1, ps, hG, hS, rfl⟩
   have hfull : ∀ i, i < n + m → (fullHead (n + m) (l.length - (n + m))).getD i true = true := fun i hi => by
    have hlt : i < (fullHead (n + m) (l.length - (n + m))).size := by simp [fullHead]; omega
    simp [fullHead, hi, List.getElem?_append]
   have htm2 : t = m := by
    rcases Nat.lt_or_ge t m with h | h
    · have h1 := hst t h
      rw [hfull (n + t) (by omega)] at h1
      have := of_decide_eq_true h1.symm
      omega
    · omega
   subst htm2
   exact done a w1 v lo hi' ps hG.defers hG.size hG.other hG.below (fun j hj => by
    obtain ⟨h1, h2, h3, h4, h5⟩ := hG.slot j hj (hfull j (by omega))
    exact ⟨h1, h2, h3, h5⟩) (fun i j hi hj hne => hG.apart i j hi hj hne (hfull i (by omega)) (hfull j (by omega))) hS.box hS.val
end


theorem uN_ok {s : ByteArray} (h : s.size ≤ 100) : (uN s).1.size ≤ maxLen ∧ (uN s).2.size ≤ maxLen := ⟨(show (BA [117, 115, 101, 114]).size ≤ maxLen by decide), Nat.le_trans h (by decide)⟩
theorem vAt_ok (n : Int) : (vAt n).1.size ≤ maxLen ∧ (vAt n).2.size ≤ maxLen := by
 unfold vAt
 have h : ∀ k, (vN4.getD k (uN ⟨#[120]⟩)).1.size ≤ maxLen ∧ (vN4.getD k (uN ⟨#[120]⟩)).2.size ≤ maxLen := fun k => by
  match k with
  | 0 => exact uN_ok (by decide)
  | 1 => exact uN_ok (by decide)
  | 2 => exact uN_ok (by decide)
  | 3 => exact uN_ok (by decide)
  | k + 4 => exact uN_ok (by decide)
 exact h _
theorem fAt_ok (n : Int) : (fAt n).1.size ≤ maxLen ∧ (fAt n).2.size ≤ maxLen := by
 unfold fAt
 have h : ∀ k, (uN (fNs.getD k ⟨#[102]⟩)).1.size ≤ maxLen ∧ (uN (fNs.getD k ⟨#[102]⟩)).2.size ≤ maxLen := fun k => by
  match k with
  | 0 => exact uN_ok (by decide)
  | 1 => exact uN_ok (by decide)
  | 2 => exact uN_ok (by decide)
  | k + 3 => exact uN_ok (show (⟨#[102]⟩ : ByteArray).size ≤ 100 by decide)
 exact h _
theorem chR_occ (u : Tm) : ∀ t, chR u t = occT u t := by
 intro t
 induction t using Tm.ind with
 | hv s => rw [occT_eq]; unfold chR; simp [Tm.args]
 | hc o => rw [occT_eq]; unfold chR; simp [Tm.args]
 | ha s l ih =>
  rw [occT_eq]; unfold chR
  rw [chRs_any]
  congr 1
  show l.any (chR u) = l.any (occT u)
  induction l with
  | nil => rfl
  | cons x l ih2 => rw [List.any_cons, List.any_cons, ih x (by simp), ih2 (fun t ht => ih t (by simp [ht]))]
mutual
theorem mtP_nmq {PO : Rw → Ob → Prop} : ∀ (r : Rw) (t : Tm), mtP PO r t → ∀ u ∈ subsT t, NmOkq u
 | .mk k n s l, t, h, u, hu => by
  have hbd := mtP_bd _ _ h
  unfold mtP at h
  split at h
  · subst h
    obtain rfl : u = .var (vAt n) := by unfold subsT at hu; simpa using hu
    exact ⟨vAt_ok n, hbd⟩
  · split at h
    · obtain ⟨o, rfl, _⟩ := h
      obtain rfl : u = .con o := by unfold subsT at hu; simpa using hu
      exact ⟨⟨Nat.zero_le _, Nat.zero_le _⟩, hbd⟩
    · obtain ⟨ts, rfl, _, hm⟩ := h
      rw [subsT_eq] at hu
      rcases List.mem_cons.1 hu with rfl | hu
      · exact ⟨fAt_ok n, hbd⟩
      · exact mtsP_nmq l ts hm u hu
theorem mtsP_nmq {PO : Rw → Ob → Prop} : ∀ (l : List Rw) (ts : List Tm), mtsP PO l ts → ∀ u ∈ subsTs ts, NmOkq u
 | _, [], _, u, hu => by rw [subsTs_nil] at hu; simp at hu
 | [], _ :: _, h, u, hu => by unfold mtsP at h; exact h.elim
 | r :: rs, t :: ts, h, u, hu => by
  unfold mtsP at h
  rw [subsTs_cons] at hu
  rcases List.mem_append.1 hu with hu | hu
  · exact mtP_nmq r t h.1 u hu
  · exact mtsP_nmq rs ts h.2 u hu
end
mutual
theorem repl_nodes (u n : Tm) (N : Nat) (hN : n.nodes ≤ N) (h1 : 1 ≤ N) : ∀ t : Tm, (replT u n t).nodes ≤ N * t.nodes
 | .var s => by
  unfold replT; split
  · have := Tm.nodes_pos (.var s); exact Nat.le_trans hN (Nat.le_mul_of_pos_right _ this)
  · exact Nat.le_mul_of_pos_left _ h1
 | .con o => by
  unfold replT; split
  · have := Tm.nodes_pos (.con o); exact Nat.le_trans hN (Nat.le_mul_of_pos_right _ this)
  · exact Nat.le_mul_of_pos_left _ h1
 | .app s l => by
  unfold replT; split
  · have := Tm.nodes_pos (.app s l); exact Nat.le_trans hN (Nat.le_mul_of_pos_right _ this)
  · have h := repls_nodes u n N hN h1 l
    have e1 : (Tm.app s (replTs u n l)).nodes = 1 + Tm.nodesL (replTs u n l) := by unfold Tm.nodes; rfl
    have e2 : (Tm.app s l).nodes = 1 + Tm.nodesL l := by unfold Tm.nodes; rfl
    rw [e1, e2, Nat.mul_add, Nat.mul_one]; omega
theorem repls_nodes (u n : Tm) (N : Nat) (hN : n.nodes ≤ N) (h1 : 1 ≤ N) : ∀ l : List Tm, Tm.nodesL (replTs u n l) ≤ N * Tm.nodesL l
 | [] => by unfold replTs; simp [Tm.nodesL]
 | t :: l => by
  have h := repl_nodes u n N hN h1 t
  have h' := repls_nodes u n N hN h1 l
  unfold replTs; simp only [Tm.nodesL]
  rw [Nat.mul_add]; omega
end
theorem eqCall (t t' : Tm) (w : World) (cs cs' : List Value) (e : t = t') (hn : t.nodes ≤ 3000) (h : TmAt w (Has w) t cs) (h' : TmAt w (Has w) t' cs') : Calls Tryz.prog 17 #[vTm cs, vTm cs'] w (RetB w true) := by
 have hh := equalR (Has w) t t' w cs cs' (In.has w) hn h h'
 rw [show eqT t t' = true by rw [e]; exact eqT_refl _] at hh
 exact hh
theorem termReplacesW (ra rb rc : Rw) (qa0 qb0 qc0 qa1 qb1 qc1 qa2 qb2 qc2 qa3 qb3 qc3 : Value) (w : World) (hra : RawAt w (Has w) ra [qa0, qa1, qa2, qa3]) (hrb : RawAt w (Has w) rb [qb0, qb1, qb2, qb3]) (hrc : RawAt w (Has w) rc [qc0, qc1, qc2, qc3]) (ht : Tab w) :
 Calls Tryz.prog 7 #[.agg #[qa0, qa1, qa2, qa3], .agg #[qb0, qb1, qb2, qb3], .agg #[qc0, qc1, qc2, qc3]] w (RetB w true) := by
 have HRA := hI hra
 have HRB := hI hrb
 have HRC := hI hrc
 have HTAB := hI ht
 have FA : Hid (∀ X, Below w.heap.size w X → Calls Tryz.prog 14 #[.agg #[qa0, qa1, qa2, qa3], .int .i64 30] X (fun e w' => e = .returned (.bool (few ra 30)) ∧ Below X.heap.size X w')) := fun X h => fewO ra [qa0, qa1, qa2, qa3] 30 X (Has w) (In.has w |>.later h.size) (HRA.out.below (In.has w) h) (by decide) (by decide)
 have KA : Hid (few ra 30 = true → ra.cnt ≤ 30 ∧ ∀ X, Below w.heap.size w X → Calls Tryz.prog 15 #[.agg #[qa0, qa1, qa2, qa3]] X (RetTP X (mtP (fun _ _ => True) ra))) := fun hf => by
  obtain ⟨hok, hcn⟩ := few_ok hf
  exact ⟨by omega, fun X h => madeT (fun _ _ => True) oMkT ra [qa0, qa1, qa2, qa3] X (Has w) (In.has w |>.later h.size) (HRA.out.below (In.has w) h) hok (HTAB.out.below h)⟩
 have FB : Hid (∀ X, Below w.heap.size w X → Calls Tryz.prog 14 #[.agg #[qb0, qb1, qb2, qb3], .int .i64 6] X (fun e w' => e = .returned (.bool (few rb 6)) ∧ Below X.heap.size X w')) := fun X h => fewO rb [qb0, qb1, qb2, qb3] 6 X (Has w) (In.has w |>.later h.size) (HRB.out.below (In.has w) h) (by decide) (by decide)
 have KB : Hid (few rb 6 = true → rb.cnt ≤ 6 ∧ ∀ X, Below w.heap.size w X → Calls Tryz.prog 15 #[.agg #[qb0, qb1, qb2, qb3]] X (RetTP X (mtP (fun _ _ => True) rb))) := fun hf => by
  obtain ⟨hok, hcn⟩ := few_ok hf
  exact ⟨by omega, fun X h => madeT (fun _ _ => True) oMkT rb [qb0, qb1, qb2, qb3] X (Has w) (In.has w |>.later h.size) (HRB.out.below (In.has w) h) hok (HTAB.out.below h)⟩
 have FC : Hid (∀ X, Below w.heap.size w X → Calls Tryz.prog 14 #[.agg #[qc0, qc1, qc2, qc3], .int .i64 6] X (fun e w' => e = .returned (.bool (few rc 6)) ∧ Below X.heap.size X w')) := fun X h => fewO rc [qc0, qc1, qc2, qc3] 6 X (Has w) (In.has w |>.later h.size) (HRC.out.below (In.has w) h) (by decide) (by decide)
 have KC : Hid (few rc 6 = true → rc.cnt ≤ 6 ∧ ∀ X, Below w.heap.size w X → Calls Tryz.prog 15 #[.agg #[qc0, qc1, qc2, qc3]] X (RetTP X (mtP (fun _ _ => True) rc))) := fun hf => by
  obtain ⟨hok, hcn⟩ := few_ok hf
  exact ⟨by omega, fun X h => madeT (fun _ _ => True) oMkT rc [qc0, qc1, qc2, qc3] X (Has w) (In.has w |>.later h.size) (HRC.out.below (In.has w) h) hok (HTAB.out.below h)⟩
 generalize few ra 30 = fa at FA KA
 generalize few rb 6 = fb at FB KB
 generalize few rc 6 = fc at FC KC
 have hA2 : Below w.heap.size w (((w.alloc (.cells #[qa0, qa1, qa2, qa3] 26)).alloc (.cells #[qb0, qb1, qb2, qb3] 26)).alloc (.cells #[qc0, qc1, qc2, qc3] 26)) := Below.alloc (Below.alloc (Below.alloc (Below.refl _ _) (Nat.le_refl _) _) (by simp) _) (by simp <;> omega) _
 have BA : Hid ((((w.alloc (.cells #[qa0, qa1, qa2, qa3] 26)).alloc (.cells #[qb0, qb1, qb2, qb3] 26)).alloc (.cells #[qc0, qc1, qc2, qc3] 26)).heap[w.heap.size]? = some (.cells #[qa0, qa1, qa2, qa3] 26 (0, 0))) := (Below.heap_alloc _ _ _ (by simp <;> omega)).trans ((Below.heap_alloc _ _ _ (by simp)).trans (heap_alloc_new w _))
 have BB : Hid ((((w.alloc (.cells #[qa0, qa1, qa2, qa3] 26)).alloc (.cells #[qb0, qb1, qb2, qb3] 26)).alloc (.cells #[qc0, qc1, qc2, qc3] 26)).heap[w.heap.size + 1]? = some (.cells #[qb0, qb1, qb2, qb3] 26 (0, 0))) := (Below.heap_alloc _ _ _ (by simp)).trans (heap_new_at (by simp))
 have BC : Hid ((((w.alloc (.cells #[qa0, qa1, qa2, qa3] 26)).alloc (.cells #[qb0, qb1, qb2, qb3] 26)).alloc (.cells #[qc0, qc1, qc2, qc3] 26)).heap[w.heap.size + 1 + 1]? = some (.cells #[qc0, qc1, qc2, qc3] 26 (0, 0))) := heap_new_at (by simp)
 have HB := hI hA2
 clear hra hrb hrc ht hA2 HRA HRB HRC HTAB
 go_enter Tryz.func7, Tryz.ntmps7
 go_upto_region 1 with fail
 generalize (((w.alloc (.cells #[qa0, qa1, qa2, qa3] 26)).alloc (.cells #[qb0, qb1, qb2, qb3] 26)).alloc (.cells #[qc0, qc1, qc2, qc3] 26)) = W at *
 generalize w.heap.size + 1 + 1 = j5 at BC ⊢
 generalize w.heap.size + 1 = j4 at BB ⊢
 obtain ⟨j3, hj3⟩ : ∃ g, w.heap.size = g := ⟨_, rfl⟩
 rw [hj3] at BA ⊢
 clear hj3
 go_wp2_with fail
 with_reducible refine (first8 W).mono ?_
 rintro e w1 ⟨rfl, hb⟩
 replace BA := hI ((hb.block _ (lt_row BA.out)).trans BA.out)
 replace BB := hI ((hb.block _ (lt_row BB.out)).trans BB.out)
 replace BC := hI ((hb.block _ (lt_row BC.out)).trans BC.out)
 replace HB := hI (chain2 HB.out hb (Nat.le_refl _))
 clear hb
 have dqa0 : w1.cell? ⟨j3, 0, none⟩ = some qa0 := by rw [cell_of_row _ _ _ _ _ _ BA.out]; rfl
 have dqa1 : w1.cell? ⟨j3, 1, none⟩ = some qa1 := by rw [cell_of_row _ _ _ _ _ _ BA.out]; rfl
 have dqa2 : w1.cell? ⟨j3, 2, none⟩ = some qa2 := by rw [cell_of_row _ _ _ _ _ _ BA.out]; rfl
 have dqa3 : w1.cell? ⟨j3, 3, none⟩ = some qa3 := by rw [cell_of_row _ _ _ _ _ _ BA.out]; rfl
 go_wp2_with fail
 with_reducible refine (FA.out _ HB.out).mono ?_
 rintro e w2 ⟨rfl, hb⟩
 replace BA := hI ((hb.block _ (lt_row BA.out)).trans BA.out)
 replace BB := hI ((hb.block _ (lt_row BB.out)).trans BB.out)
 replace BC := hI ((hb.block _ (lt_row BC.out)).trans BC.out)
 replace HB := hI (chain2 HB.out hb (Nat.le_refl _))
 clear hb
 clear FA dqa0 dqa1 dqa2 dqa3
 cases fa with
 | false =>
  go_wp2
  go_ret
  exact ⟨rfl, HB.out⟩
 | true =>
  have dqb0 : w2.cell? ⟨j4, 0, none⟩ = some qb0 := by rw [cell_of_row _ _ _ _ _ _ BB.out]; rfl
  have dqb1 : w2.cell? ⟨j4, 1, none⟩ = some qb1 := by rw [cell_of_row _ _ _ _ _ _ BB.out]; rfl
  have dqb2 : w2.cell? ⟨j4, 2, none⟩ = some qb2 := by rw [cell_of_row _ _ _ _ _ _ BB.out]; rfl
  have dqb3 : w2.cell? ⟨j4, 3, none⟩ = some qb3 := by rw [cell_of_row _ _ _ _ _ _ BB.out]; rfl
  go_wp2_with fail
  with_reducible refine (FB.out _ HB.out).mono ?_
  rintro e w3 ⟨rfl, hb⟩
  replace BA := hI ((hb.block _ (lt_row BA.out)).trans BA.out)
  replace BB := hI ((hb.block _ (lt_row BB.out)).trans BB.out)
  replace BC := hI ((hb.block _ (lt_row BC.out)).trans BC.out)
  replace HB := hI (chain2 HB.out hb (Nat.le_refl _))
  clear hb
  clear FB dqb0 dqb1 dqb2 dqb3
  cases fb with
  | false =>
   go_wp2
   go_ret
   exact ⟨rfl, HB.out⟩
  | true =>
   have dqc0 : w3.cell? ⟨j5, 0, none⟩ = some qc0 := by rw [cell_of_row _ _ _ _ _ _ BC.out]; rfl
   have dqc1 : w3.cell? ⟨j5, 1, none⟩ = some qc1 := by rw [cell_of_row _ _ _ _ _ _ BC.out]; rfl
   have dqc2 : w3.cell? ⟨j5, 2, none⟩ = some qc2 := by rw [cell_of_row _ _ _ _ _ _ BC.out]; rfl
   have dqc3 : w3.cell? ⟨j5, 3, none⟩ = some qc3 := by rw [cell_of_row _ _ _ _ _ _ BC.out]; rfl
   go_wp2_with fail
   with_reducible refine (FC.out _ HB.out).mono ?_
   rintro e w5 ⟨rfl, hb⟩
   replace BA := hI ((hb.block _ (lt_row BA.out)).trans BA.out)
   replace BB := hI ((hb.block _ (lt_row BB.out)).trans BB.out)
   replace BC := hI ((hb.block _ (lt_row BC.out)).trans BC.out)
   replace HB := hI (chain2 HB.out hb (Nat.le_refl _))
   clear hb
   clear FC dqc0 dqc1 dqc2 dqc3
   cases fc with
   | false =>
    go_wp2
    go_ret
    exact ⟨rfl, HB.out⟩
   | true =>
    obtain ⟨hca, hKA⟩ := KA.out (by simp)
    obtain ⟨hcb, hKB⟩ := KB.out (by simp)
    obtain ⟨hcc, hKC⟩ := KC.out (by simp)
    replace KA := hI hKA
    replace KB := hI hKB
    replace KC := hI hKC
    have HCA := hI hca
    have HCB := hI hcb
    have HCC := hI hcc
    clear hKA hKB hKC hca hcb hcc
    go_wp2_with fail
    refine wp_region_growMT2 (l := _) 9 2 (by kernel_rfl) (by kernel_rfl) (fun i => [26, 27, 28, 29, 30, 31, 7, 8, 9].getD i 0) (LR [LV (.agg #[qa0, qa1, qa2, qa3]), LTP w5 (mtP (fun _ _ => True) ra), LV (.agg #[qb0, qb1, qb2, qb3]), LTP w5 (mtP (fun _ _ => True) rb), LV (.agg #[qc0, qc1, qc2, qc3]), LTP w5 (mtP (fun _ _ => True) rc), LTx, LTx, LTx]) (LR_mono ⟨mLV _, mLTP _ _, mLV _, mLTP _ _, mLV _, mLTP _ _, mLTx, mLTx, mLTx, trivial⟩) (by
     intro i j hi hj h
     exact inj_getD [26, 27, 28, 29, 30, 31, 7, 8, 9] (by decide) i j hi hj h) (by
     intro i hi
     exact lt_getD 60 [26, 27, 28, 29, 30, 31, 7, 8, 9] (by decide) i hi) [2] (by kernel_rfl) (fun s => [6, 7].getD s 0) (fun s => [1, 3].getD s 0) (by
     intro s hs
     exact lt_getD 9 [6, 7] (by decide) s hs) (by
     intro s hs
     exact lt_getD 9 [1, 3] (by decide) s hs) (by
     intro i j hi hj h
     exact inj_getD [6, 7] (by decide) i j hi hj h) (by kernel_rfl) (by
     intro s hs
     exact match s, hs with | 0, _ => ⟨_, rfl, rfl, rfl, rfl⟩ | 1, _ => ⟨_, rfl, rfl, rfl, rfl⟩) (by
     intro s hs
     exact match s, hs with | 0, _ => fun _ _ _ _ h => h | 1, _ => fun _ _ _ _ h => h) (by
     intro s hs
     exact match s, hs with | 0, _ => fun _ _ _ _ ⟨_, t, cs, e, k, _⟩ => ⟨cs, e, k.o11⟩ | 1, _ => fun _ _ _ _ ⟨_, t, cs, e, k, _⟩ => ⟨cs, e, k.o11⟩) ?step ?stepL ?done
    case step =>
     intro ii hii a w9 v lo hi' hoth hb hw
     have sl3 : a.tmps[3]? = some (.pointer (some ⟨j3, 0, none⟩)) := (hoth 3 (fun j hj => ne_getD 3 _ (by decide) j hj)).trans rfl
     have sl4 : a.tmps[4]? = some (.pointer (some ⟨j4, 0, none⟩)) := (hoth 4 (fun j hj => ne_getD 4 _ (by decide) j hj)).trans rfl
     have sl5 : a.tmps[5]? = some (.pointer (some ⟨j5, 0, none⟩)) := (hoth 5 (fun j hj => ne_getD 5 _ (by decide) j hj)).trans rfl
     match ii, hii with
     | 0, _ =>
      have HRW := (hb.block _ (lt_row BA.out)).trans BA.out
      have ck0 : w9.cell? ⟨j3, 0, none⟩ = some qa0 := by rw [cell_of_row _ _ _ _ _ _ HRW]; rfl
      have ck1 : w9.cell? ⟨j3, 1, none⟩ = some qa1 := by rw [cell_of_row _ _ _ _ _ _ HRW]; rfl
      have ck2 : w9.cell? ⟨j3, 2, none⟩ = some qa2 := by rw [cell_of_row _ _ _ _ _ _ HRW]; rfl
      have ck3 : w9.cell? ⟨j3, 3, none⟩ = some qa3 := by rw [cell_of_row _ _ _ _ _ _ HRW]; rfl
      refine wpOp_step rfl fun K' hK' => ?_
      rw [if_pos (wanted_plain rfl)]
      unfold Oper.wp
      simp only [execOp]
      go_simp
      exact hK' _ _ ⟨_, rfl, Below.refl _ _, rfl⟩
     | 1, _ =>
      obtain ⟨s0, r0, _⟩ := hw 0 (by omega) (by kernel_rfl)
      have e0 : v 0 = .agg #[qa0, qa1, qa2, qa3] := r0
      rw [e0] at s0
      replace s0 : a.tmps[26]? = some (.agg #[qa0, qa1, qa2, qa3]) := s0
      refine gw_t rfl (wanted_plain rfl) 15 26 _ _ rfl (fun v w => by go_simp) s0 ?_
      with_reducible refine (KA.out w9 (chain2 HB.out hb (Nat.le_refl _))).mono ?_
      rintro e w3 ⟨t3, ⟨cs3, rfl, h3, hb3⟩, hm3⟩
      exact ⟨_, rfl, _, rfl, hb3, Nat.le_trans hb.size hb3.size, t3, cs3, rfl, h3.more (fun b hb0 => by rcases hb0 with h | h; exact h.elim; exact .inr ⟨Nat.le_trans hb.size h.1, h.2⟩), hm3⟩
     | 2, _ =>
      have HRW := (hb.block _ (lt_row BB.out)).trans BB.out
      have ck0 : w9.cell? ⟨j4, 0, none⟩ = some qb0 := by rw [cell_of_row _ _ _ _ _ _ HRW]; rfl
      have ck1 : w9.cell? ⟨j4, 1, none⟩ = some qb1 := by rw [cell_of_row _ _ _ _ _ _ HRW]; rfl
      have ck2 : w9.cell? ⟨j4, 2, none⟩ = some qb2 := by rw [cell_of_row _ _ _ _ _ _ HRW]; rfl
      have ck3 : w9.cell? ⟨j4, 3, none⟩ = some qb3 := by rw [cell_of_row _ _ _ _ _ _ HRW]; rfl
      refine wpOp_step rfl fun K' hK' => ?_
      rw [if_pos (wanted_plain rfl)]
      unfold Oper.wp
      simp only [execOp]
      go_simp
      exact hK' _ _ ⟨_, rfl, Below.refl _ _, rfl⟩
     | 3, _ =>
      obtain ⟨s0, r0, _⟩ := hw 2 (by omega) (by kernel_rfl)
      have e0 : v 2 = .agg #[qb0, qb1, qb2, qb3] := r0
      rw [e0] at s0
      replace s0 : a.tmps[28]? = some (.agg #[qb0, qb1, qb2, qb3]) := s0
      refine gw_t rfl (wanted_plain rfl) 15 28 _ _ rfl (fun v w => by go_simp) s0 ?_
      with_reducible refine (KB.out w9 (chain2 HB.out hb (Nat.le_refl _))).mono ?_
      rintro e w3 ⟨t3, ⟨cs3, rfl, h3, hb3⟩, hm3⟩
      exact ⟨_, rfl, _, rfl, hb3, Nat.le_trans hb.size hb3.size, t3, cs3, rfl, h3.more (fun b hb0 => by rcases hb0 with h | h; exact h.elim; exact .inr ⟨Nat.le_trans hb.size h.1, h.2⟩), hm3⟩
     | 4, _ =>
      have HRW := (hb.block _ (lt_row BC.out)).trans BC.out
      have ck0 : w9.cell? ⟨j5, 0, none⟩ = some qc0 := by rw [cell_of_row _ _ _ _ _ _ HRW]; rfl
      have ck1 : w9.cell? ⟨j5, 1, none⟩ = some qc1 := by rw [cell_of_row _ _ _ _ _ _ HRW]; rfl
      have ck2 : w9.cell? ⟨j5, 2, none⟩ = some qc2 := by rw [cell_of_row _ _ _ _ _ _ HRW]; rfl
      have ck3 : w9.cell? ⟨j5, 3, none⟩ = some qc3 := by rw [cell_of_row _ _ _ _ _ _ HRW]; rfl
      refine wpOp_step rfl fun K' hK' => ?_
      rw [if_pos (wanted_plain rfl)]
      unfold Oper.wp
      simp only [execOp]
      go_simp
      exact hK' _ _ ⟨_, rfl, Below.refl _ _, rfl⟩
     | 5, _ =>
      obtain ⟨s0, r0, _⟩ := hw 4 (by omega) (by kernel_rfl)
      have e0 : v 4 = .agg #[qc0, qc1, qc2, qc3] := r0
      rw [e0] at s0
      replace s0 : a.tmps[30]? = some (.agg #[qc0, qc1, qc2, qc3]) := s0
      refine gw_t rfl (wanted_plain rfl) 15 30 _ _ rfl (fun v w => by go_simp) s0 ?_
      with_reducible refine (KC.out w9 (chain2 HB.out hb (Nat.le_refl _))).mono ?_
      rintro e w3 ⟨t3, ⟨cs3, rfl, h3, hb3⟩, hm3⟩
      exact ⟨_, rfl, _, rfl, hb3, Nat.le_trans hb.size hb3.size, t3, cs3, rfl, h3.more (fun b hb0 => by rcases hb0 with h | h; exact h.elim; exact .inr ⟨Nat.le_trans hb.size h.1, h.2⟩), hm3⟩
     | 6, _ =>
      refine wpOp_step rfl fun K' hK' => ?_
      rw [if_pos (wanted_plain rfl)]
      unfold Oper.wp
      simp only [execOp]
      go_simp
      exact hK' _ _ ⟨_, rfl, below_alT _ _, rfl, heap_alloc_new _ _, by simp⟩
     | 7, _ =>
      refine wpOp_step rfl fun K' hK' => ?_
      rw [if_pos (wanted_plain rfl)]
      unfold Oper.wp
      simp only [execOp]
      go_simp
      exact hK' _ _ ⟨_, rfl, below_alT _ _, rfl, heap_alloc_new _ _, by simp⟩
     | 8, _ =>
      refine wpOp_step rfl fun K' hK' => ?_
      rw [if_pos (wanted_plain rfl)]
      unfold Oper.wp
      simp only [execOp]
      go_simp
      exact hK' _ _ ⟨_, rfl, below_alT _ _, rfl, heap_alloc_new _ _, by simp⟩
    case stepL =>
     intro ii hii hl a w1 w9 v lo hi' hoth hb0 hbk hsz hw
     have hb := BlkB.of hb0 hbk hsz
     have sl3 : a.tmps[3]? = some (.pointer (some ⟨j3, 0, none⟩)) := (hoth 3 (fun j hj => ne_getD 3 _ (by decide) j hj)).trans rfl
     have sl4 : a.tmps[4]? = some (.pointer (some ⟨j4, 0, none⟩)) := (hoth 4 (fun j hj => ne_getD 4 _ (by decide) j hj)).trans rfl
     have sl5 : a.tmps[5]? = some (.pointer (some ⟨j5, 0, none⟩)) := (hoth 5 (fun j hj => ne_getD 5 _ (by decide) j hj)).trans rfl
     match ii, hii with
     | 0, _ => exact absurd hl (by decide)
     | 1, _ => exact absurd hl (by decide)
     | 2, _ =>
      have HRW := (hb.block _ (lt_row BB.out)).trans BB.out
      have ck0 : w9.cell? ⟨j4, 0, none⟩ = some qb0 := by rw [cell_of_row _ _ _ _ _ _ HRW]; rfl
      have ck1 : w9.cell? ⟨j4, 1, none⟩ = some qb1 := by rw [cell_of_row _ _ _ _ _ _ HRW]; rfl
      have ck2 : w9.cell? ⟨j4, 2, none⟩ = some qb2 := by rw [cell_of_row _ _ _ _ _ _ HRW]; rfl
      have ck3 : w9.cell? ⟨j4, 3, none⟩ = some qb3 := by rw [cell_of_row _ _ _ _ _ _ HRW]; rfl
      refine wpOp_step rfl fun K' hK' => ?_
      rw [if_pos (wanted_plain rfl)]
      unfold Oper.wp
      simp only [execOp]
      go_simp
      exact hK' _ _ ⟨_, _, rfl, .inl ⟨rfl, rfl⟩, rfl⟩
     | 3, _ => exact absurd hl (by decide)
     | 4, _ => exact absurd hl (by decide)
     | 5, _ => exact absurd hl (by decide)
     | 6, _ => exact absurd hl (by decide)
     | 7, _ => exact absurd hl (by decide)
     | 8, _ => exact absurd hl (by decide)
    case done =>
     intro a w9 v lo hi' css hdef hsz hoth hb hj hap hbx hvs
     obtain ⟨hv6, hbx0⟩ := hbx 0 (by omega)
     obtain ⟨hv1, ho0⟩ := hvs 0 (by omega)
     change v 6 = _ at hv6
     change v 1 = _ at hv1
     obtain ⟨hv7, hbx1⟩ := hbx 1 (by omega)
     obtain ⟨hv3, ho1⟩ := hvs 1 (by omega)
     change v 7 = _ at hv7
     change v 3 = _ at hv3
     obtain ⟨_, ⟨hz1, ta, csa, hv1b, hta, hpa⟩, hlo1, hhi1⟩ := hj 1 (by omega)
     obtain ⟨_, ⟨hz3, tb, csb, hv3b, htb, hpb⟩, hlo3, hhi3⟩ := hj 3 (by omega)
     obtain ⟨_, ⟨hz5, tc, csc, hv5, htc, hpc⟩, hlo5, hhi5⟩ := hj 5 (by omega)
     obtain ⟨_, ⟨hv6b, hbx6, hlt6⟩, hlo6, hhi6⟩ := hj 6 (by omega)
     obtain ⟨_, ⟨hv7b, hbx7, hlt7⟩, hlo7, hhi7⟩ := hj 7 (by omega)
     obtain ⟨_, ⟨hv8, hbx8, hlt8⟩, hlo8, hhi8⟩ := hj 8 (by omega)
     have ha := eq_puts hdef hsz hoth (fun i hi => (hj i hi).1)
     subst ha
     have hc0 : css 0 = csa := vTm_inj (hv1.symm.trans hv1b)
     have hc1 : css 1 = csb := vTm_inj (hv3.symm.trans hv3b)
     clear hv1b hv3b hv6b hv7b
     clear hj hoth hdef hsz
     simp only [puts, List.getD_cons_zero, List.getD_cons_succ, hv6, hv1, hv7, hv3, hv5, hv8]
     generalize v 0 = v0
     generalize v 2 = v2
     generalize v 4 = v4
     simp only [Act.put, List.setIfInBounds_toArray, List.set_cons_zero, List.set_cons_succ]
     show wpList _ _ _ [_] _ _
     have hW : stW (stT lo (fun s => [6, 7].getD s 0) css) w9 2 = (w9.setRow (lo 6) (css 0).toArray).setRow (lo 7) (css 1).toArray := rfl
     rw [hW, hc0, hc1]
     have hap67 := hap 6 7 (by omega) (by omega) (by omega)
     have hap68 := hap 6 8 (by omega) (by omega) (by omega)
     have hap78 := hap 7 8 (by omega) (by omega) (by omega)
     have n67 : lo 6 ≠ lo 7 := by omega
     have n68 : lo 6 ≠ lo 8 := by omega
     have n78 : lo 7 ≠ lo 8 := by omega
     change TB w9 (lo 6) zT at hbx0
     change TB w9 (lo 7) zT at hbx1
     have O5 := hI htc.o11
     have HPA := hI hpa
     have HPB := hI hpb
     have HPC := hI hpc
     have hl6 := hlo6
     have hl7 := hlo7
     have hl8 := hlo8
     have hB9 := hb
     clear hap hap67 hap68 hap78 hpa hpb hpc hc0 hc1 hW ho0 ho1 hlo1 hlo3 hlo5 hhi1 hhi3 hhi5 hlt6 hlt7 hlt8 hhi6 hhi7 hhi8 hz1 hz3 hz5 hlo6 hlo7 hlo8 hb
     generalize lo 6 = g7 at *
     generalize lo 7 = g8 at *
     generalize lo 8 = g9 at *
     have T8 : TB (w9.setRow g7 csa.toArray) g8 zT := hbx1.other (fun e => n67 e.symm)
     have T9 : Hid (TB ((w9.setRow g7 csa.toArray).setRow g8 csb.toArray) g9 zT) := (hbx8.other (fun e => n68 e.symm)).other (fun e => n78 e.symm)
     have XA := TmAt.boxed (TmAt.boxed (TmAt.boxed hta hbx0.nb csa.toArray) T8.nb csb.toArray) T9.out.nb csc.toArray
     have XB := TmAt.boxed (TmAt.boxed (TmAt.boxed htb hbx0.nb csa.toArray) T8.nb csb.toArray) T9.out.nb csc.toArray
     have XC := TmAt.boxed (TmAt.boxed (TmAt.boxed htc hbx0.nb csa.toArray) T8.nb csb.toArray) T9.out.nb csc.toArray
     have N7 : Hid (TB (((w9.setRow g7 csa.toArray).setRow g8 csb.toArray).setRow g9 csc.toArray) g7 csa) := ((hbx0.set csa).other n67).other n68
     have N8 : Hid (TB (((w9.setRow g7 csa.toArray).setRow g8 csb.toArray).setRow g9 csc.toArray) g8 csb) := (T8.set csb).other n78
     have N9 : Hid (TB (((w9.setRow g7 csa.toArray).setRow g8 csb.toArray).setRow g9 csc.toArray) g9 csc) := T9.out.set csc
     have hBY : Below w5.heap.size w5 (((w9.setRow g7 csa.toArray).setRow g8 csb.toArray).setRow g9 csc.toArray) := below_setRowO (below_setRowO (below_setRowO hB9 hl6 _) hl7 _) hl8 _
     have HBY : Hid (Below w.heap.size w (((w9.setRow g7 csa.toArray).setRow g8 csb.toArray).setRow g9 csc.toArray)) := HB.out.trans (hBY.mono HB.out.size)
     have hup : ∀ b, Upto w5 (((w9.setRow g7 csa.toArray).setRow g8 csb.toArray).setRow g9 csc.toArray) NoB b → Has (((w9.setRow g7 csa.toArray).setRow g8 csb.toArray).setRow g9 csc.toArray) b := fun b hb => by rcases hb with h | ⟨_, h⟩; exact h.elim; exact h
     have HTA := hI (XA.more hup)
     have HTB := hI (XB.more hup)
     have HTC := hI (XC.more hup)
     clear XA XB XC hup hBY hta htb htc hbx0 hbx1 hbx8 T8 n67 n68 n78 hl6 hl7 hl8 hB9 KA KB KC BA BB BC HB
     go_upto_region 6 with ((with_reducible refine storeTb (cs := csc) (.tmp 9) (.tmp 31) ?_ ?_ ?_ ?_ T9.out ?_ ?_ ?_ ?_); rfl; rfl; rfl; rfl; rfl; exact O5.out.1; exact O5.out.2)
     clear T9 O5
     generalize ((w9.setRow g7 csa.toArray).setRow g8 csb.toArray).setRow g9 csc.toArray = Y at *
     obtain ⟨x0, x1, x2, x3, x4, x5, x6, A1, c1, rfl, _, _⟩ := HTA.out.eleven
     obtain ⟨y0, y1, y2, y3, y4, y5, y6, A2, c2, rfl, _, _⟩ := HTB.out.eleven
     obtain ⟨z0, z1, z2, z3, z4, z5, z6, A3, c3, rfl, _, _⟩ := HTC.out.eleven
     have HNA : Hid (ta.nodes ≤ 3000) := (show _ ≤ _ by have := mtP_nodes _ _ HPA.out; have := HCA.out; omega)
     have HNB : Hid (tb.nodes ≤ 3000) := (show _ ≤ _ by have := mtP_nodes _ _ HPB.out; have := HCB.out; omega)
     have HBDB : Hid (tb.bd 10) := mtP_bd _ _ HPB.out
     have HSH : Hid (∀ u ∈ subsT ta, NmOkq u) := mtP_nmq _ _ HPA.out
     have HNR0 : (replT tb tc ta).nodes ≤ 3000 := by
      have h1 := repl_nodes tb tc 24 (by have := mtP_nodes _ _ HPC.out; have := HCC.out; omega) (by decide) ta
      have h2 := mtP_nodes _ _ HPA.out
      have h3 := HCA.out
      omega
     have RPC : Hid (Calls Tryz.prog 37 #[.agg #[.int .i64 ta.kd, .string ta.nm.1, .string ta.nm.2, x0, x1, x2, x3, x4, x5, x6, .slice A1 ta.args.length c1], .agg #[.int .i64 tb.kd, .string tb.nm.1, .string tb.nm.2, y0, y1, y2, y3, y4, y5, y6, .slice A2 tb.args.length c2], .agg #[.int .i64 tc.kd, .string tc.nm.1, .string tc.nm.2, z0, z1, z2, z3, z4, z5, z6, .slice A3 tc.args.length c3]] Y (RetT Y (Has Y) (replT tb tc ta))) := replaceP tb tc 10 (by decide) HNB.out HBDB.out ta _ _ _ Y (Has Y) (In.has Y) HTA.out HTB.out HTC.out HNA.out (mtP_bd _ _ HPA.out)
     obtain ⟨tr, htr⟩ : ∃ tr, replT tb tc ta = tr := ⟨_, rfl⟩
     rw [htr] at RPC HNR0
     have HRT := hI htr
     have HNR := hI HNR0
     clear htr HNR0 HPA HPB HPC HCA HCB HCC
     go_wp2_with (first | ((with_reducible refine loadTb (cs := [.int .i64 ta.kd, .string ta.nm.1, .string ta.nm.2, x0, x1, x2, x3, x4, x5, x6, .slice A1 ta.args.length c1]) (.tmp 7) ?_ ?_ ?_ N7.out ?_ ?_); rfl; rfl; rfl; rfl) | ((with_reducible refine loadTb (cs := [.int .i64 tb.kd, .string tb.nm.1, .string tb.nm.2, y0, y1, y2, y3, y4, y5, y6, .slice A2 tb.args.length c2]) (.tmp 8) ?_ ?_ ?_ N8.out ?_ ?_); rfl; rfl; rfl; rfl) | ((with_reducible refine loadTb (cs := [.int .i64 tc.kd, .string tc.nm.1, .string tc.nm.2, z0, z1, z2, z3, z4, z5, z6, .slice A3 tc.args.length c3]) (.tmp 9) ?_ ?_ ?_ N9.out ?_ ?_); rfl; rfl; rfl; rfl))
     refine RPC.out.mono ?_
     rintro e w6 ⟨csr, rfl, hr, hbr⟩
     have O6 := hI hr.o11
     have T10 : Hid (TB (w6.alloc (.cells #[.int .i64 0, .string ⟨#[]⟩, .string ⟨#[]⟩, .int .i64 0, .string ⟨#[]⟩, .string ⟨#[]⟩, .string ⟨#[]⟩, .string ⟨#[]⟩, .string ⟨#[]⟩, .slice none 0 0, .slice none 0 0] 35)) w6.heap.size zT) := heap_alloc_new w6 _
     have hX : Below w6.heap.size w6 ((w6.alloc (.cells #[.int .i64 0, .string ⟨#[]⟩, .string ⟨#[]⟩, .int .i64 0, .string ⟨#[]⟩, .string ⟨#[]⟩, .string ⟨#[]⟩, .string ⟨#[]⟩, .string ⟨#[]⟩, .slice none 0 0, .slice none 0 0] 35)).setRow w6.heap.size csr.toArray) := below_setRowO (below_alT w6 _) (Nat.le_refl _) _
     have hYX : Below Y.heap.size Y ((w6.alloc (.cells #[.int .i64 0, .string ⟨#[]⟩, .string ⟨#[]⟩, .int .i64 0, .string ⟨#[]⟩, .string ⟨#[]⟩, .string ⟨#[]⟩, .string ⟨#[]⟩, .string ⟨#[]⟩, .slice none 0 0, .slice none 0 0] 35)).setRow w6.heap.size csr.toArray) := hbr.trans (hX.mono hbr.size)
     have hup2 : ∀ b, Has Y b → Has ((w6.alloc (.cells #[.int .i64 0, .string ⟨#[]⟩, .string ⟨#[]⟩, .int .i64 0, .string ⟨#[]⟩, .string ⟨#[]⟩, .string ⟨#[]⟩, .string ⟨#[]⟩, .string ⟨#[]⟩, .slice none 0 0, .slice none 0 0] 35)).setRow w6.heap.size csr.toArray) b := fun b hb => Nat.lt_of_lt_of_le hb hYX.size
     replace HTA := hI ((HTA.out.below (In.has Y) hYX).more hup2)
     replace HTB := hI ((HTB.out.below (In.has Y) hYX).more hup2)
     replace HTC := hI ((HTC.out.below (In.has Y) hYX).more hup2)
     have HTR := hI (((hr.more (fun b hb => show Has w6 b from upto_lt (In.has Y) hbr.size b hb)).below (In.has w6) hX).more (fun b hb => show Has _ b from Nat.lt_of_lt_of_le hb hX.size))
     replace N7 := hI ((N7.out.keep hbr).keep hX)
     replace N8 := hI ((N8.out.keep hbr).keep hX)
     replace N9 := hI ((N9.out.keep hbr).keep hX)
     have N10 : Hid (TB ((w6.alloc (.cells #[.int .i64 0, .string ⟨#[]⟩, .string ⟨#[]⟩, .int .i64 0, .string ⟨#[]⟩, .string ⟨#[]⟩, .string ⟨#[]⟩, .string ⟨#[]⟩, .string ⟨#[]⟩, .slice none 0 0, .slice none 0 0] 35)).setRow w6.heap.size csr.toArray) w6.heap.size csr) := T10.out.set _
     have HBX : Hid (Below w.heap.size w ((w6.alloc (.cells #[.int .i64 0, .string ⟨#[]⟩, .string ⟨#[]⟩, .int .i64 0, .string ⟨#[]⟩, .string ⟨#[]⟩, .string ⟨#[]⟩, .string ⟨#[]⟩, .string ⟨#[]⟩, .slice none 0 0, .slice none 0 0] 35)).setRow w6.heap.size csr.toArray)) := HBY.out.trans (hYX.mono HBY.out.size)
     clear hr hbr hX hYX hup2 HBY RPC
     go_upto_region 7 with ((with_reducible refine storeTb (cs := csr) (.tmp 10) (.tmp 35) ?_ ?_ ?_ ?_ T10.out ?_ ?_ ?_ ?_); rfl; rfl; rfl; rfl; rfl; exact O6.out.1; exact O6.out.2)
     clear T10 O6
     generalize (w6.alloc (.cells #[.int .i64 0, .string ⟨#[]⟩, .string ⟨#[]⟩, .int .i64 0, .string ⟨#[]⟩, .string ⟨#[]⟩, .string ⟨#[]⟩, .string ⟨#[]⟩, .string ⟨#[]⟩, .slice none 0 0, .slice none 0 0] 35)).setRow w6.heap.size csr.toArray = X at *
     generalize w6.heap.size = g10 at *
     obtain ⟨vr0, vr1, vr2, vr3, vr4, vr5, vr6, A4, c4, rfl, _, _⟩ := HTR.out.eleven
     obtain ⟨q, hq⟩ : ∃ q, occT tb ta = q := ⟨_, rfl⟩
     have HOQ := hI hq
     clear hq
     go_wp2_with fail
     refine wp_region_grow (l := _) 15 (by kernel_rfl) (by kernel_rfl) (fun i => [36, 37, 38, 39, 40, 41, 42, 43, 44, 45, 46, 47, 48, 49, 50].getD i 0) (LR [LV (.agg #[.int .i64 tb.kd, .string tb.nm.1, .string tb.nm.2, y0, y1, y2, y3, y4, y5, y6, .slice A2 tb.args.length c2]), LV (.agg #[.int .i64 ta.kd, .string ta.nm.1, .string ta.nm.2, x0, x1, x2, x3, x4, x5, x6, .slice A1 ta.args.length c1]), LV (.bool q), LV (.agg #[.int .i64 tb.kd, .string tb.nm.1, .string tb.nm.2, y0, y1, y2, y3, y4, y5, y6, .slice A2 tb.args.length c2]), LV (.agg #[.int .i64 ta.kd, .string ta.nm.1, .string ta.nm.2, x0, x1, x2, x3, x4, x5, x6, .slice A1 ta.args.length c1]), LV (.bool q), LV (.bool false), LV (.bool false), LV (.agg #[.int .i64 tr.kd, .string tr.nm.1, .string tr.nm.2, vr0, vr1, vr2, vr3, vr4, vr5, vr6, .slice A4 tr.args.length c4]), LV (.agg #[.int .i64 ta.kd, .string ta.nm.1, .string ta.nm.2, x0, x1, x2, x3, x4, x5, x6, .slice A1 ta.args.length c1]), LV (.agg #[.int .i64 tb.kd, .string tb.nm.1, .string tb.nm.2, y0, y1, y2, y3, y4, y5, y6, .slice A2 tb.args.length c2]), LV (.agg #[.int .i64 tc.kd, .string tc.nm.1, .string tc.nm.2, z0, z1, z2, z3, z4, z5, z6, .slice A3 tc.args.length c3]), LTm X (Has X) tr, LV (.bool true), LV (.bool false)]) (LR_mono ⟨mLV _, mLV _, mLV _, mLV _, mLV _, mLV _, mLV _, mLV _, mLV _, mLV _, mLV _, mLV _, mLTm (In.has X) _, mLV _, mLV _, trivial⟩) (by
      intro i j hi hj h
      exact inj_getD [36, 37, 38, 39, 40, 41, 42, 43, 44, 45, 46, 47, 48, 49, 50] (by decide) i j hi hj h) (by
      intro i hi
      exact lt_getD 60 [36, 37, 38, 39, 40, 41, 42, 43, 44, 45, 46, 47, 48, 49, 50] (by decide) i hi) ?step ?done
     case step =>
      intro ii hii a w9 v lo hi' hoth hb hw
      have sl7 : a.tmps[7]? = some (.pointer (some ⟨g7, 0, none⟩)) := (hoth 7 (fun j hj => ne_getD 7 _ (by decide) j hj)).trans rfl
      have sl8 : a.tmps[8]? = some (.pointer (some ⟨g8, 0, none⟩)) := (hoth 8 (fun j hj => ne_getD 8 _ (by decide) j hj)).trans rfl
      have sl9 : a.tmps[9]? = some (.pointer (some ⟨g9, 0, none⟩)) := (hoth 9 (fun j hj => ne_getD 9 _ (by decide) j hj)).trans rfl
      have sl10 : a.tmps[10]? = some (.pointer (some ⟨g10, 0, none⟩)) := (hoth 10 (fun j hj => ne_getD 10 _ (by decide) j hj)).trans rfl
      match ii, hii with
      | 0, _ =>
       have HBB := N8.out.keep hb
       have ck0 : w9.cell? ⟨g8, 0, none⟩ = _ := TB.cell HBB 0 _ rfl
       have ck1 : w9.cell? ⟨g8, 1, none⟩ = _ := TB.cell HBB 1 _ rfl
       have ck2 : w9.cell? ⟨g8, 2, none⟩ = _ := TB.cell HBB 2 _ rfl
       have ck3 : w9.cell? ⟨g8, 3, none⟩ = _ := TB.cell HBB 3 _ rfl
       have ck4 : w9.cell? ⟨g8, 4, none⟩ = _ := TB.cell HBB 4 _ rfl
       have ck5 : w9.cell? ⟨g8, 5, none⟩ = _ := TB.cell HBB 5 _ rfl
       have ck6 : w9.cell? ⟨g8, 6, none⟩ = _ := TB.cell HBB 6 _ rfl
       have ck7 : w9.cell? ⟨g8, 7, none⟩ = _ := TB.cell HBB 7 _ rfl
       have ck8 : w9.cell? ⟨g8, 8, none⟩ = _ := TB.cell HBB 8 _ rfl
       have ck9 : w9.cell? ⟨g8, 9, none⟩ = _ := TB.cell HBB 9 _ rfl
       have ck10 : w9.cell? ⟨g8, 10, none⟩ = _ := TB.cell HBB 10 _ rfl
       refine wpOp_step rfl fun K' hK' => ?_
       rw [if_pos (wanted_plain rfl)]
       unfold Oper.wp
       simp only [execOp]
       go_simp
       exact hK' _ _ ⟨_, rfl, Below.refl _ _, rfl⟩
      | 1, _ =>
       have HBB := N7.out.keep hb
       have ck0 : w9.cell? ⟨g7, 0, none⟩ = _ := TB.cell HBB 0 _ rfl
       have ck1 : w9.cell? ⟨g7, 1, none⟩ = _ := TB.cell HBB 1 _ rfl
       have ck2 : w9.cell? ⟨g7, 2, none⟩ = _ := TB.cell HBB 2 _ rfl
       have ck3 : w9.cell? ⟨g7, 3, none⟩ = _ := TB.cell HBB 3 _ rfl
       have ck4 : w9.cell? ⟨g7, 4, none⟩ = _ := TB.cell HBB 4 _ rfl
       have ck5 : w9.cell? ⟨g7, 5, none⟩ = _ := TB.cell HBB 5 _ rfl
       have ck6 : w9.cell? ⟨g7, 6, none⟩ = _ := TB.cell HBB 6 _ rfl
       have ck7 : w9.cell? ⟨g7, 7, none⟩ = _ := TB.cell HBB 7 _ rfl
       have ck8 : w9.cell? ⟨g7, 8, none⟩ = _ := TB.cell HBB 8 _ rfl
       have ck9 : w9.cell? ⟨g7, 9, none⟩ = _ := TB.cell HBB 9 _ rfl
       have ck10 : w9.cell? ⟨g7, 10, none⟩ = _ := TB.cell HBB 10 _ rfl
       refine wpOp_step rfl fun K' hK' => ?_
       rw [if_pos (wanted_plain rfl)]
       unfold Oper.wp
       simp only [execOp]
       go_simp
       exact hK' _ _ ⟨_, rfl, Below.refl _ _, rfl⟩
      | 2, _ =>
       obtain ⟨s0, r0, _⟩ := hw 0 (by omega) (by kernel_rfl)
       have e0 : v 0 = .agg #[.int .i64 tb.kd, .string tb.nm.1, .string tb.nm.2, y0, y1, y2, y3, y4, y5, y6, .slice A2 tb.args.length c2] := r0
       rw [e0] at s0
       replace s0 : a.tmps[36]? = some (.agg #[.int .i64 tb.kd, .string tb.nm.1, .string tb.nm.2, y0, y1, y2, y3, y4, y5, y6, .slice A2 tb.args.length c2]) := s0
       obtain ⟨s1, r1, _⟩ := hw 1 (by omega) (by kernel_rfl)
       have e1 : v 1 = .agg #[.int .i64 ta.kd, .string ta.nm.1, .string ta.nm.2, x0, x1, x2, x3, x4, x5, x6, .slice A1 ta.args.length c1] := r1
       rw [e1] at s1
       replace s1 : a.tmps[37]? = some (.agg #[.int .i64 ta.kd, .string ta.nm.1, .string ta.nm.2, x0, x1, x2, x3, x4, x5, x6, .slice A1 ta.args.length c1]) := s1
       have CC := occursT tb ta _ _ w9 (Has X) ((In.has X).later hb.size) (HTB.out.below (In.has X) hb) (HTA.out.below (In.has X) hb) HSH.out HNB.out HNA.out HBDB.out
       rw [HOQ.out] at CC
       unfold vTm at CC
       refine gw_tt rfl (wanted_plain rfl) 38 36 37 _ _ _ rfl (fun v u w => by go_simp) s0 s1 ?_
       with_reducible refine (CC).mono ?_
       rintro e w3 ⟨rfl, hb3⟩
       exact ⟨_, rfl, _, rfl, hb3, rfl⟩
      | 3, _ =>
       have HBB := N8.out.keep hb
       have ck0 : w9.cell? ⟨g8, 0, none⟩ = _ := TB.cell HBB 0 _ rfl
       have ck1 : w9.cell? ⟨g8, 1, none⟩ = _ := TB.cell HBB 1 _ rfl
       have ck2 : w9.cell? ⟨g8, 2, none⟩ = _ := TB.cell HBB 2 _ rfl
       have ck3 : w9.cell? ⟨g8, 3, none⟩ = _ := TB.cell HBB 3 _ rfl
       have ck4 : w9.cell? ⟨g8, 4, none⟩ = _ := TB.cell HBB 4 _ rfl
       have ck5 : w9.cell? ⟨g8, 5, none⟩ = _ := TB.cell HBB 5 _ rfl
       have ck6 : w9.cell? ⟨g8, 6, none⟩ = _ := TB.cell HBB 6 _ rfl
       have ck7 : w9.cell? ⟨g8, 7, none⟩ = _ := TB.cell HBB 7 _ rfl
       have ck8 : w9.cell? ⟨g8, 8, none⟩ = _ := TB.cell HBB 8 _ rfl
       have ck9 : w9.cell? ⟨g8, 9, none⟩ = _ := TB.cell HBB 9 _ rfl
       have ck10 : w9.cell? ⟨g8, 10, none⟩ = _ := TB.cell HBB 10 _ rfl
       refine wpOp_step rfl fun K' hK' => ?_
       rw [if_pos (wanted_plain rfl)]
       unfold Oper.wp
       simp only [execOp]
       go_simp
       exact hK' _ _ ⟨_, rfl, Below.refl _ _, rfl⟩
      | 4, _ =>
       have HBB := N7.out.keep hb
       have ck0 : w9.cell? ⟨g7, 0, none⟩ = _ := TB.cell HBB 0 _ rfl
       have ck1 : w9.cell? ⟨g7, 1, none⟩ = _ := TB.cell HBB 1 _ rfl
       have ck2 : w9.cell? ⟨g7, 2, none⟩ = _ := TB.cell HBB 2 _ rfl
       have ck3 : w9.cell? ⟨g7, 3, none⟩ = _ := TB.cell HBB 3 _ rfl
       have ck4 : w9.cell? ⟨g7, 4, none⟩ = _ := TB.cell HBB 4 _ rfl
       have ck5 : w9.cell? ⟨g7, 5, none⟩ = _ := TB.cell HBB 5 _ rfl
       have ck6 : w9.cell? ⟨g7, 6, none⟩ = _ := TB.cell HBB 6 _ rfl
       have ck7 : w9.cell? ⟨g7, 7, none⟩ = _ := TB.cell HBB 7 _ rfl
       have ck8 : w9.cell? ⟨g7, 8, none⟩ = _ := TB.cell HBB 8 _ rfl
       have ck9 : w9.cell? ⟨g7, 9, none⟩ = _ := TB.cell HBB 9 _ rfl
       have ck10 : w9.cell? ⟨g7, 10, none⟩ = _ := TB.cell HBB 10 _ rfl
       refine wpOp_step rfl fun K' hK' => ?_
       rw [if_pos (wanted_plain rfl)]
       unfold Oper.wp
       simp only [execOp]
       go_simp
       exact hK' _ _ ⟨_, rfl, Below.refl _ _, rfl⟩
      | 5, _ =>
       obtain ⟨s0, r0, _⟩ := hw 3 (by omega) (by kernel_rfl)
       have e0 : v 3 = .agg #[.int .i64 tb.kd, .string tb.nm.1, .string tb.nm.2, y0, y1, y2, y3, y4, y5, y6, .slice A2 tb.args.length c2] := r0
       rw [e0] at s0
       replace s0 : a.tmps[39]? = some (.agg #[.int .i64 tb.kd, .string tb.nm.1, .string tb.nm.2, y0, y1, y2, y3, y4, y5, y6, .slice A2 tb.args.length c2]) := s0
       obtain ⟨s1, r1, _⟩ := hw 4 (by omega) (by kernel_rfl)
       have e1 : v 4 = .agg #[.int .i64 ta.kd, .string ta.nm.1, .string ta.nm.2, x0, x1, x2, x3, x4, x5, x6, .slice A1 ta.args.length c1] := r1
       rw [e1] at s1
       replace s1 : a.tmps[40]? = some (.agg #[.int .i64 ta.kd, .string ta.nm.1, .string ta.nm.2, x0, x1, x2, x3, x4, x5, x6, .slice A1 ta.args.length c1]) := s1
       have CC := occursR tb (Has X) HNB.out ta w9 _ _ ((In.has X).later hb.size) HNA.out (HTB.out.below (In.has X) hb) (HTA.out.below (In.has X) hb)
       rw [HOQ.out] at CC
       unfold vTm at CC
       refine gw_tt rfl (wanted_plain rfl) 39 39 40 _ _ _ rfl (fun v u w => by go_simp) s0 s1 ?_
       with_reducible refine (CC).mono ?_
       rintro e w3 ⟨rfl, hb3⟩
       exact ⟨_, rfl, _, rfl, hb3, rfl⟩
      | 6, _ =>
       obtain ⟨s0, r0, _⟩ := hw 2 (by omega) (by kernel_rfl)
       have e0 : v 2 = .bool q := r0
       rw [e0] at s0
       replace s0 : a.tmps[38]? = some (.bool q) := s0
       obtain ⟨s1, r1, _⟩ := hw 5 (by omega) (by kernel_rfl)
       have e1 : v 5 = .bool q := r1
       rw [e1] at s1
       replace s1 : a.tmps[41]? = some (.bool q) := s1
       have hqq : (q != q) = false := by cases q <;> rfl
       refine wpOp_step rfl fun K' hK' => ?_
       rw [if_pos (wanted_plain rfl)]
       unfold Oper.wp
       simp only [execOp]
       go_simp
       exact hK' _ _ ⟨_, rfl, Below.refl _ _, rfl⟩
      | 7, _ =>
       obtain ⟨s0, r0, _⟩ := hw 6 (by omega) (by kernel_rfl)
       have e0 : v 6 = .bool false := r0
       rw [e0] at s0
       replace s0 : a.tmps[42]? = some (.bool false) := s0
       refine wpOp_step rfl fun K' hK' => ?_
       rw [if_pos (wanted_plain rfl)]
       unfold Oper.wp
       simp only [execOp]
       go_simp
       exact hK' _ _ ⟨_, rfl, Below.refl _ _, rfl⟩
      | 8, _ =>
       obtain ⟨s9, r9, _⟩ := hw 7 (by omega) (by kernel_rfl)
       have e9 : v 7 = .bool false := r9
       rw [e9] at s9
       replace s9 : a.tmps[43]? = some (.bool false) := s9
       have HBB := N10.out.keep hb
       have ck0 : w9.cell? ⟨g10, 0, none⟩ = _ := TB.cell HBB 0 _ rfl
       have ck1 : w9.cell? ⟨g10, 1, none⟩ = _ := TB.cell HBB 1 _ rfl
       have ck2 : w9.cell? ⟨g10, 2, none⟩ = _ := TB.cell HBB 2 _ rfl
       have ck3 : w9.cell? ⟨g10, 3, none⟩ = _ := TB.cell HBB 3 _ rfl
       have ck4 : w9.cell? ⟨g10, 4, none⟩ = _ := TB.cell HBB 4 _ rfl
       have ck5 : w9.cell? ⟨g10, 5, none⟩ = _ := TB.cell HBB 5 _ rfl
       have ck6 : w9.cell? ⟨g10, 6, none⟩ = _ := TB.cell HBB 6 _ rfl
       have ck7 : w9.cell? ⟨g10, 7, none⟩ = _ := TB.cell HBB 7 _ rfl
       have ck8 : w9.cell? ⟨g10, 8, none⟩ = _ := TB.cell HBB 8 _ rfl
       have ck9 : w9.cell? ⟨g10, 9, none⟩ = _ := TB.cell HBB 9 _ rfl
       have ck10 : w9.cell? ⟨g10, 10, none⟩ = _ := TB.cell HBB 10 _ rfl
       refine wpOp_step rfl fun K' hK' => ?_
       rw [if_pos (wanted_on rfl rfl rfl s9 rfl)]
       unfold Oper.wp
       simp only [execOp]
       go_simp
       exact hK' _ _ ⟨_, rfl, Below.refl _ _, rfl⟩
      | 9, _ =>
       obtain ⟨s9, r9, _⟩ := hw 7 (by omega) (by kernel_rfl)
       have e9 : v 7 = .bool false := r9
       rw [e9] at s9
       replace s9 : a.tmps[43]? = some (.bool false) := s9
       have HBB := N7.out.keep hb
       have ck0 : w9.cell? ⟨g7, 0, none⟩ = _ := TB.cell HBB 0 _ rfl
       have ck1 : w9.cell? ⟨g7, 1, none⟩ = _ := TB.cell HBB 1 _ rfl
       have ck2 : w9.cell? ⟨g7, 2, none⟩ = _ := TB.cell HBB 2 _ rfl
       have ck3 : w9.cell? ⟨g7, 3, none⟩ = _ := TB.cell HBB 3 _ rfl
       have ck4 : w9.cell? ⟨g7, 4, none⟩ = _ := TB.cell HBB 4 _ rfl
       have ck5 : w9.cell? ⟨g7, 5, none⟩ = _ := TB.cell HBB 5 _ rfl
       have ck6 : w9.cell? ⟨g7, 6, none⟩ = _ := TB.cell HBB 6 _ rfl
       have ck7 : w9.cell? ⟨g7, 7, none⟩ = _ := TB.cell HBB 7 _ rfl
       have ck8 : w9.cell? ⟨g7, 8, none⟩ = _ := TB.cell HBB 8 _ rfl
       have ck9 : w9.cell? ⟨g7, 9, none⟩ = _ := TB.cell HBB 9 _ rfl
       have ck10 : w9.cell? ⟨g7, 10, none⟩ = _ := TB.cell HBB 10 _ rfl
       refine wpOp_step rfl fun K' hK' => ?_
       rw [if_pos (wanted_on rfl rfl rfl s9 rfl)]
       unfold Oper.wp
       simp only [execOp]
       go_simp
       exact hK' _ _ ⟨_, rfl, Below.refl _ _, rfl⟩
      | 10, _ =>
       obtain ⟨s9, r9, _⟩ := hw 7 (by omega) (by kernel_rfl)
       have e9 : v 7 = .bool false := r9
       rw [e9] at s9
       replace s9 : a.tmps[43]? = some (.bool false) := s9
       have HBB := N8.out.keep hb
       have ck0 : w9.cell? ⟨g8, 0, none⟩ = _ := TB.cell HBB 0 _ rfl
       have ck1 : w9.cell? ⟨g8, 1, none⟩ = _ := TB.cell HBB 1 _ rfl
       have ck2 : w9.cell? ⟨g8, 2, none⟩ = _ := TB.cell HBB 2 _ rfl
       have ck3 : w9.cell? ⟨g8, 3, none⟩ = _ := TB.cell HBB 3 _ rfl
       have ck4 : w9.cell? ⟨g8, 4, none⟩ = _ := TB.cell HBB 4 _ rfl
       have ck5 : w9.cell? ⟨g8, 5, none⟩ = _ := TB.cell HBB 5 _ rfl
       have ck6 : w9.cell? ⟨g8, 6, none⟩ = _ := TB.cell HBB 6 _ rfl
       have ck7 : w9.cell? ⟨g8, 7, none⟩ = _ := TB.cell HBB 7 _ rfl
       have ck8 : w9.cell? ⟨g8, 8, none⟩ = _ := TB.cell HBB 8 _ rfl
       have ck9 : w9.cell? ⟨g8, 9, none⟩ = _ := TB.cell HBB 9 _ rfl
       have ck10 : w9.cell? ⟨g8, 10, none⟩ = _ := TB.cell HBB 10 _ rfl
       refine wpOp_step rfl fun K' hK' => ?_
       rw [if_pos (wanted_on rfl rfl rfl s9 rfl)]
       unfold Oper.wp
       simp only [execOp]
       go_simp
       exact hK' _ _ ⟨_, rfl, Below.refl _ _, rfl⟩
      | 11, _ =>
       obtain ⟨s9, r9, _⟩ := hw 7 (by omega) (by kernel_rfl)
       have e9 : v 7 = .bool false := r9
       rw [e9] at s9
       replace s9 : a.tmps[43]? = some (.bool false) := s9
       have HBB := N9.out.keep hb
       have ck0 : w9.cell? ⟨g9, 0, none⟩ = _ := TB.cell HBB 0 _ rfl
       have ck1 : w9.cell? ⟨g9, 1, none⟩ = _ := TB.cell HBB 1 _ rfl
       have ck2 : w9.cell? ⟨g9, 2, none⟩ = _ := TB.cell HBB 2 _ rfl
       have ck3 : w9.cell? ⟨g9, 3, none⟩ = _ := TB.cell HBB 3 _ rfl
       have ck4 : w9.cell? ⟨g9, 4, none⟩ = _ := TB.cell HBB 4 _ rfl
       have ck5 : w9.cell? ⟨g9, 5, none⟩ = _ := TB.cell HBB 5 _ rfl
       have ck6 : w9.cell? ⟨g9, 6, none⟩ = _ := TB.cell HBB 6 _ rfl
       have ck7 : w9.cell? ⟨g9, 7, none⟩ = _ := TB.cell HBB 7 _ rfl
       have ck8 : w9.cell? ⟨g9, 8, none⟩ = _ := TB.cell HBB 8 _ rfl
       have ck9 : w9.cell? ⟨g9, 9, none⟩ = _ := TB.cell HBB 9 _ rfl
       have ck10 : w9.cell? ⟨g9, 10, none⟩ = _ := TB.cell HBB 10 _ rfl
       refine wpOp_step rfl fun K' hK' => ?_
       rw [if_pos (wanted_on rfl rfl rfl s9 rfl)]
       unfold Oper.wp
       simp only [execOp]
       go_simp
       exact hK' _ _ ⟨_, rfl, Below.refl _ _, rfl⟩
      | 12, _ =>
       obtain ⟨s0, r0, _⟩ := hw 9 (by omega) (by kernel_rfl)
       have e0 : v 9 = .agg #[.int .i64 ta.kd, .string ta.nm.1, .string ta.nm.2, x0, x1, x2, x3, x4, x5, x6, .slice A1 ta.args.length c1] := r0
       rw [e0] at s0
       replace s0 : a.tmps[45]? = some (.agg #[.int .i64 ta.kd, .string ta.nm.1, .string ta.nm.2, x0, x1, x2, x3, x4, x5, x6, .slice A1 ta.args.length c1]) := s0
       obtain ⟨s1, r1, _⟩ := hw 10 (by omega) (by kernel_rfl)
       have e1 : v 10 = .agg #[.int .i64 tb.kd, .string tb.nm.1, .string tb.nm.2, y0, y1, y2, y3, y4, y5, y6, .slice A2 tb.args.length c2] := r1
       rw [e1] at s1
       replace s1 : a.tmps[46]? = some (.agg #[.int .i64 tb.kd, .string tb.nm.1, .string tb.nm.2, y0, y1, y2, y3, y4, y5, y6, .slice A2 tb.args.length c2]) := s1
       obtain ⟨s2, r2, _⟩ := hw 11 (by omega) (by kernel_rfl)
       have e2 : v 11 = .agg #[.int .i64 tc.kd, .string tc.nm.1, .string tc.nm.2, z0, z1, z2, z3, z4, z5, z6, .slice A3 tc.args.length c3] := r2
       rw [e2] at s2
       replace s2 : a.tmps[47]? = some (.agg #[.int .i64 tc.kd, .string tc.nm.1, .string tc.nm.2, z0, z1, z2, z3, z4, z5, z6, .slice A3 tc.args.length c3]) := s2
       obtain ⟨s9, r9, _⟩ := hw 7 (by omega) (by kernel_rfl)
       have e9 : v 7 = .bool false := r9
       rw [e9] at s9
       replace s9 : a.tmps[43]? = some (.bool false) := s9
       have CC := replaceR tb tc (Has X) ta w9 _ _ _ ((In.has X).later hb.size) HNA.out (HTA.out.below (In.has X) hb) (HTB.out.below (In.has X) hb) (HTC.out.below (In.has X) hb)
       rw [HRT.out] at CC
       unfold vTm at CC
       refine gw_ttt rfl (wanted_on rfl rfl rfl s9 rfl) 40 45 46 47 _ _ _ _ rfl (fun v u x w => by go_simp) s0 s1 s2 ?_
       with_reducible refine (CC).mono ?_
       rintro e w3 ⟨cs3, rfl, h3, hb3⟩
       exact ⟨_, rfl, _, rfl, hb3, Nat.le_trans hb.size hb3.size, cs3, rfl, h3.more (fun b hb0 => up3 (Below.refl _ X) hb b hb0)⟩
      | 13, _ =>
       obtain ⟨s0, r0, _⟩ := hw 8 (by omega) (by kernel_rfl)
       have e0 : v 8 = .agg #[.int .i64 tr.kd, .string tr.nm.1, .string tr.nm.2, vr0, vr1, vr2, vr3, vr4, vr5, vr6, .slice A4 tr.args.length c4] := r0
       rw [e0] at s0
       replace s0 : a.tmps[44]? = some (.agg #[.int .i64 tr.kd, .string tr.nm.1, .string tr.nm.2, vr0, vr1, vr2, vr3, vr4, vr5, vr6, .slice A4 tr.args.length c4]) := s0
       obtain ⟨s1, r1, b1⟩ := hw 12 (by omega) (by kernel_rfl)
       obtain ⟨hz1, cs1, e1, ht1⟩ := r1
       rw [e1] at s1
       obtain ⟨s9, r9, _⟩ := hw 7 (by omega) (by kernel_rfl)
       have e9 : v 7 = .bool false := r9
       rw [e9] at s9
       replace s9 : a.tmps[43]? = some (.bool false) := s9
       have CC : Calls Tryz.prog 17 #[.agg #[.int .i64 tr.kd, .string tr.nm.1, .string tr.nm.2, vr0, vr1, vr2, vr3, vr4, vr5, vr6, .slice A4 tr.args.length c4], vTm cs1] w9 (RetB w9 (eqT tr tr)) := equalR (Upto X w9 (Has X)) tr tr w9 _ cs1 ((In.has X).upto hb.size) HNR.out ((HTR.out.below (In.has X) hb).more (fun b hb0 => Or.inl hb0)) ht1
       rw [eqT_refl] at CC
       refine gw_tt rfl (wanted_on rfl rfl rfl s9 rfl) 17 44 48 _ _ _ rfl (fun v u w => by go_simp) s0 s1 ?_
       with_reducible refine (CC).mono ?_
       rintro e w3 ⟨rfl, hb3⟩
       exact ⟨_, rfl, _, rfl, hb3, rfl⟩
      | 14, _ =>
       obtain ⟨s0, r0, _⟩ := hw 13 (by omega) (by kernel_rfl)
       have e0 : v 13 = .bool true := r0
       rw [e0] at s0
       replace s0 : a.tmps[49]? = some (.bool true) := s0
       obtain ⟨s9, r9, _⟩ := hw 7 (by omega) (by kernel_rfl)
       have e9 : v 7 = .bool false := r9
       rw [e9] at s9
       replace s9 : a.tmps[43]? = some (.bool false) := s9
       refine wpOp_step rfl fun K' hK' => ?_
       rw [if_pos (wanted_on rfl rfl rfl s9 rfl)]
       unfold Oper.wp
       simp only [execOp]
       go_simp
       exact hK' _ _ ⟨_, rfl, Below.refl _ _, rfl⟩
      | k + 15, h => exact absurd h (by omega)
     case done =>
      intro a w9 v lo hi' hdef hsz hoth hb hj hap
      obtain ⟨_, hv7, _, _⟩ := hj 7 (by omega)
      obtain ⟨_, hv14, _, _⟩ := hj 14 (by omega)
      have ha := eq_puts hdef hsz hoth (fun i hi => (hj i hi).1)
      subst ha
      clear hj hoth hdef hsz hap
      change v 7 = _ at hv7
      change v 14 = _ at hv14
      simp only [puts, List.getD_cons_zero, List.getD_cons_succ, hv7, hv14]
      generalize v 0 = v0
      generalize v 1 = v1
      generalize v 2 = v2
      generalize v 3 = v3
      generalize v 4 = v4
      generalize v 5 = v5
      generalize v 6 = v6
      generalize v 8 = v8
      generalize v 9 = v9
      generalize v 10 = v10
      generalize v 11 = v11
      generalize v 12 = v12
      generalize v 13 = v13
      clear hv7 hv14
      simp only [Act.put, List.setIfInBounds_toArray, List.set_cons_zero, List.set_cons_succ]
      show wpList _ _ _ [_] _ _
      have M7 := hI (N7.out.keep hb)
      have M8 := hI (N8.out.keep hb)
      have M10 := hI (N10.out.keep hb)
      have HBM : Hid (Below w.heap.size w w9) := HBX.out.trans (hb.mono HBX.out.size)
      have hupm : ∀ b, Has X b → Has w9 b := fun b hb0 => Nat.lt_of_lt_of_le hb0 hb.size
      have HTA9 := hI ((HTA.out.below (In.has X) hb).more hupm)
      have HTB9 := hI ((HTB.out.below (In.has X) hb).more hupm)
      have HTR9 := hI ((HTR.out.below (In.has X) hb).more hupm)
      have CO : Hid (Calls Tryz.prog 39 #[.agg #[.int .i64 tb.kd, .string tb.nm.1, .string tb.nm.2, y0, y1, y2, y3, y4, y5, y6, .slice A2 tb.args.length c2], .agg #[.int .i64 ta.kd, .string ta.nm.1, .string ta.nm.2, x0, x1, x2, x3, x4, x5, x6, .slice A1 ta.args.length c1]] w9 (RetB w9 q)) := (show Calls _ _ _ _ _ by
       have h := occursR tb (Has w9) HNB.out ta w9 _ _ (In.has w9) HNA.out HTB9.out HTA9.out
       rw [HOQ.out] at h
       exact h)
      clear hb hupm N7 N8 N9 N10 HTA HTB HTC HTR HBX
      go_wp2_with (first | ((with_reducible refine loadTb (cs := [.int .i64 tb.kd, .string tb.nm.1, .string tb.nm.2, y0, y1, y2, y3, y4, y5, y6, .slice A2 tb.args.length c2]) (.tmp 8) ?_ ?_ ?_ M8.out ?_ ?_); rfl; rfl; rfl; rfl) | ((with_reducible refine loadTb (cs := [.int .i64 ta.kd, .string ta.nm.1, .string ta.nm.2, x0, x1, x2, x3, x4, x5, x6, .slice A1 ta.args.length c1]) (.tmp 7) ?_ ?_ ?_ M7.out ?_ ?_); rfl; rfl; rfl; rfl))
      refine CO.out.mono ?_
      rintro e w10 ⟨rfl, hb⟩
      have HBN : Hid (Below w.heap.size w w10) := HBM.out.trans (hb.mono HBM.out.size)
      cases q with
      | true =>
       clear hb
       dsimp only
       repeat (first | go_skip | go_guarded | go_step | go_upon | go_back)
       go_ret
       exact ⟨rfl, HBN.out⟩
      | false =>
       replace M7 := hI (M7.out.keep hb)
       replace M10 := hI (M10.out.keep hb)
       have e1 : tr = ta := by rw [← HRT.out]; exact rep_same tb tc ta (by rw [chR_occ]; exact HOQ.out)
       have hupn : ∀ b, Has w9 b → Has w10 b := fun b hb0 => Nat.lt_of_lt_of_le hb0 hb.size
       have hR10 := (HTR9.out.below (In.has w9) hb).more hupn
       have hA10 := (HTA9.out.below (In.has w9) hb).more hupn
       have CE0 := eqCall tr ta w10 _ _ e1 HNR.out hR10 hA10
       unfold vTm at CE0
       have CE := hI CE0
       clear hR10 hA10 CE0
       clear hb hupn e1
       dsimp only
       repeat (first | ((with_reducible refine loadTg (cs := [.int .i64 tr.kd, .string tr.nm.1, .string tr.nm.2, vr0, vr1, vr2, vr3, vr4, vr5, vr6, .slice A4 tr.args.length c4]) (.tmp 10) ?_ ?_ ?_ M10.out ?_ ?_); rfl; rfl; rfl; rfl; unfold vTm) | ((with_reducible refine loadTg (cs := [.int .i64 ta.kd, .string ta.nm.1, .string ta.nm.2, x0, x1, x2, x3, x4, x5, x6, .slice A1 ta.args.length c1]) (.tmp 7) ?_ ?_ ?_ M7.out ?_ ?_); rfl; rfl; rfl; rfl; unfold vTm) | go_skip | go_guarded | go_step | go_upon | go_back)
       refine CE.out.mono ?_
       rintro e w11 ⟨rfl, hb⟩
       have HBO : Hid (Below w.heap.size w w11) := HBN.out.trans (hb.mono HBN.out.size)
       clear hb
       dsimp only
       repeat (first | go_skip | go_guarded | go_step | go_upon | go_back)
       go_ret
       exact ⟨rfl, HBO.out⟩
theorem termReplaces_walk (ra : Rw) (a0 a1 a2 a3 : Value) (rb : Rw) (b0 b1 b2 b3 : Value) (rc : Rw) (c0 c1 c2 c3 : Value) (w : World) (hra : RawAt w (Has w) ra [a0, a1, a2, a3]) (hrb : RawAt w (Has w) rb [b0, b1, b2, b3]) (hrc : RawAt w (Has w) rc [c0, c1, c2, c3]) (ht : Tab w) :
 Calls Tryz.prog 7 #[.agg #[a0, a1, a2, a3], .agg #[b0, b1, b2, b3], .agg #[c0, c1, c2, c3]] w (RetB w true) :=
 termReplacesW ra rb rc a0 b0 c0 a1 b1 c1 a2 b2 c2 a3 b3 c3 w hra hrb hrc ht
end Go.Proofs.YtinjhnnpbejccaaGreatDoor
