/- The program's countNodes, isLarge, Nodes of terms; the memory that keeps nothing; where a list of arguments lies. -/
import Derived.Test.YtinjhnnpbejccaaGreatDoorG19
import Derived.Test.YtinjhnnpbejccaaGreatDoorG12
import Derived.Test.YtinjhnnpbejccaaGreatDoorG11
import Derived.BigRegion
import Derived.Test.YtinjhnnpbejccaaGreatDoorG13
import Derived.BigQuiet
namespace Go.Proofs.YtinjhnnpbejccaaGreatDoor
open Go Go.RowKit
set_option linter.unusedVariables false
set_option maxHeartbeats 32000000
set_option maxRecDepth 100000
def CtW (w wr : World) (l : List Tm) (i : Nat) (m R : Int) : Prop := m + Tm.nodesL (l.drop i) = R ∧ 0 ≤ m ∧ Below w.heap.size w wr
theorem countT : ∀ (t : Tm) (b k : Nat) (cs : List Value) (m : Int) (w : World), TmP w (Has w) t b k cs → 0 ≤ m → m + t.nodes ≤ 3000 →
 Calls Tryz.prog 96 #[.pointer (some ⟨b, k, none⟩), .int .i64 m] w (RetI w (m + t.nodes)) := by
 intro t
 induction t using Tm.ind with
 | hv s =>
  intro b k cs m w h hm hn
  obtain ⟨x0, x1, x2, x3, x4, x5, x6, A, c, _, _, _, l0, l1, l2, l3, l4, l5, l6, l7, l8, l9, l10⟩ := h.cells
  change w.cell? ⟨b, k, none⟩ = some (.int .i64 1) at l0
  have e : (m + ((Tm.var s).nodes : Int)) = m + 1 := by simp [Tm.nodes]
  rw [e] at hn ⊢
  clear h e l1 l2 l3 l4 l5 l6 l7 l8 l9 l10
  go_enter Tryz.func96, Tryz.ntmps96
  go_wp2
  go_ret
  exact ⟨rfl, Below.refl _ _⟩
 | hc o =>
  intro b k cs m w h hm hn
  obtain ⟨x0, x1, x2, x3, x4, x5, x6, A, c, _, ⟨p, ev, hp⟩, _, l0, l1, l2, l3, l4, l5, l6, l7, l8, l9, l10⟩ := h.cells
  change w.cell? ⟨b, k, none⟩ = some (.int .i64 2) at l0
  have e : (m + ((Tm.con o).nodes : Int)) = m + o.nodes := by simp [Tm.nodes]
  rw [e] at hn ⊢
  have call := nodesP o p w (Has w) (In.has w) hp (by omega)
  unfold vO at call
  rw [← ev] at call
  replace call := hI call
  have h1 : IntKind.i64.wrap (m + (o.nodes : Int)) = m + o.nodes := IntWalk.i64_in _ (by omega)
  generalize (o.nodes : Int) = q at call hn h1 ⊢
  clear h e l1 l2 l10 ev hp
  go_enter Tryz.func96, Tryz.ntmps96
  go_wp2_with fail
  refine call.out.mono ?_
  rintro e w1 ⟨rfl, hb⟩
  have HB := hI hb
  clear hb
  have hlt : m + q < 3001 := by omega
  have hle : m + q ≤ 3001 := by omega
  have hnl : ¬ (3001 : Int) < m + q := by omega
  go_wp2
  go_ret
  exact ⟨ret_int (Int.min_eq_left hle), HB.out⟩
 | ha s l ih =>
  intro b k cs m w h hm hn
  obtain ⟨x0, x1, x2, x3, x4, x5, x6, A, c, _, _, ha, l0, l1, l2, l3, l4, l5, l6, l7, l8, l9, l10⟩ := h.cells
  have hbw : b < w.heap.size := h.1.1
  change w.cell? ⟨b, k, none⟩ = some (.int .i64 3) at l0
  change w.cell? ⟨b, k + 10, none⟩ = some (.slice A l.length c) at l10
  change ArgsAt w (Has w) l A c at ha
  obtain ⟨R, hR⟩ : ∃ R : Int, m + ((Tm.app s l).nodes : Int) = R := ⟨_, rfl⟩
  have e : ((Tm.app s l).nodes : Int) = 1 + Tm.nodesL l := by simp only [Tm.nodes]; omega
  rw [hR] at hn ⊢
  rw [e] at hR
  have hm3 : m + 1 ≤ 3000 := by omega
  have hcl := ha.1
  have HA := hI ha
  have IH := hI ih
  obtain ⟨L, hL⟩ : ∃ L, l.length = L := ⟨_, rfl⟩
  have hLn : L ≤ 3000 := by have := Tm.nodesL_len l; omega
  rw [hL] at l10 hcl
  have HL := hI hL
  have h0 : Hid (CtW w w l 0 (m + 1) R) := ⟨by rw [List.drop_zero]; omega, by omega, Below.refl _ _⟩
  clear h ha ih hL e hR l1 l2 l3 l4 l5 l6 l7 l8 l9
  go_enter Tryz.func96, Tryz.ntmps96
  go_wp2_with fail
  go_loopw [1, 32] (fun u v wr => ∃ (i : Nat) (m : Int), i ≤ L ∧ u = .int .i64 m ∧ v = .int .i64 (i : Int) ∧ Hid (CtW w wr l i m R)) (fun _ v _ => L - (intOf v).toNat)
  case atStart => exact ⟨0, m + 1, Nat.zero_le _, rfl, rfl, h0⟩
  case round =>
   clear h0
   obtain ⟨i, m, hi, rfl, rfl, hE⟩ := hrel
   obtain ⟨wo, rfl⟩ : ∃ wo : World, wo = wr := ⟨_, rfl⟩
   obtain ⟨hS, hm0, hb⟩ := hE.out
   clear hE
   have j10 := (hb.cell (p := ⟨b, k + 10, none⟩) hbw).trans l10
   by_cases hlt : i < L
   · have hil : i < l.length := by rw [HL.out]; exact hlt
     obtain ⟨b1, o1, cs1, rfl, hP⟩ := HA.out.arg hil
     have hP1 := (hP.below (In.has w) hb).more (fun q hq => Nat.lt_of_lt_of_le hq hb.size)
     have hs := Tm.nodesL_drop hil
     have hp0 := l[i].nodes_pos
     have call := hI (IH.out l[i] (List.getElem_mem hil) b1 (o1 + i * 11) cs1 m wo hP1 hm0 (by omega))
     have hS2 : m + (l[i].nodes : Int) + Tm.nodesL (l.drop (i + 1)) = R := by omega
     have hm1 : 0 ≤ m + (l[i].nodes : Int) := by omega
     generalize (l[i].nodes : Int) = q at call hS2 hm1
     have hmm : m ≤ 3000 := by omega
     have HS2 := hI hS2
     have HB := hI hb
     clear hS hs hP hP1 hp0 hS2 hb
     go_wp2_with fail
     refine call.out.mono ?_
     rintro e w3 ⟨rfl, hb3⟩
     have hst : Hid (CtW w w3 l (i + 1) (m + q) R) := ⟨HS2.out, hm1, chain2 HB.out hb3 (Nat.le_refl _)⟩
     clear hb3 call
     go_wp2
     go_roundw
     case rel => exact ⟨i + 1, m + q, by omega, rfl, by go_num, hst⟩
     case measure => simp [intOf]; omega
   · have hiL : i = L := by omega
     have hn2 : ¬ (i : Int) < L := by omega
     have hmR : m = R := by
      rw [hiL, ← HL.out, List.drop_length] at hS
      simp only [Tm.nodesL] at hS
      omega
     subst hmR
     have HB := hI hb
     clear hS hiL hlt hb
     go_wp2
     go_ret
     exact ⟨rfl, HB.out⟩
theorem isLargeT (t : Tm) (b k : Nat) (cs : List Value) (w : World) (h : TmP w (Has w) t b k cs) (hn : t.nodes ≤ 3000) :
 Calls Tryz.prog 114 #[.pointer (some ⟨b, k, none⟩)] w (RetB w false) := by
 have call := countT t b k cs 0 w h (by omega) (by omega)
 have hz : (0 : Int) + (t.nodes : Int) ≤ 3000 := by omega
 generalize (0 : Int) + (t.nodes : Int) = q at call hz
 have C := hI call
 clear call h hn
 go_enter Tryz.func114, Tryz.ntmps114
 go_wp2_with fail
 refine C.out.mono ?_
 rintro e w1 ⟨rfl, hb⟩
 have HB := hI hb
 clear hb
 have hg : Hid (¬ (3000 : Int) < q) := (show ¬ (3000 : Int) < q by omega)
 go_wp2
 go_ret
 exact ⟨by show Ending.returned (.bool (decide ((3000 : Int) < q))) = _; rw [decide_eq_false (Int.not_lt.2 hz)], HB.out⟩
def RetNil (w : World) (e : Ending) (w' : World) : Prop := e = .returned (.pointer none) ∧ Below w.heap.size w w'
theorem memForI (x : Int) (t : Tm) (b k : Nat) (cs : List Value) (w : World) (h : TmP w (Has w) t b k cs) (hn : t.nodes ≤ 3000) :
 Calls Tryz.prog 121 #[.pointer (some ⟨b, k, none⟩), .int .i64 x] w (RetNil w) := by
 have C : Hid (∀ W, Below w.heap.size w W → Calls Tryz.prog 114 #[.pointer (some ⟨b, k, none⟩)] W (RetB W false)) := fun W hb =>
  isLargeT t b k cs W ((h.below (In.has w) hb).more fun q hq => Nat.lt_of_lt_of_le hq hb.size) hn
 clear h hn
 go_enter Tryz.func121, Tryz.ntmps121
 go_wp2_with fail
 refine (C.out _ (Below.refl _ _)).mono ?_
 rintro e w1 ⟨rfl, hb⟩
 have HB := hI hb
 clear hb
 go_wp2
 go_ret
 exact ⟨rfl, HB.out⟩
theorem memForB (x : Bool) (t : Tm) (b k : Nat) (cs : List Value) (w : World) (h : TmP w (Has w) t b k cs) (hn : t.nodes ≤ 3000) :
 Calls Tryz.prog 101 #[.pointer (some ⟨b, k, none⟩), .bool x] w (RetNil w) := by
 have C : Hid (∀ W, Below w.heap.size w W → Calls Tryz.prog 114 #[.pointer (some ⟨b, k, none⟩)] W (RetB W false)) := fun W hb =>
  isLargeT t b k cs W ((h.below (In.has w) hb).more fun q hq => Nat.lt_of_lt_of_le hq hb.size) hn
 clear h hn
 go_enter Tryz.func101, Tryz.ntmps101
 go_wp2_with fail
 refine (C.out _ (Below.refl _ _)).mono ?_
 rintro e w1 ⟨rfl, hb⟩
 have HB := hI hb
 clear hb
 go_wp2
 go_ret
 exact ⟨rfl, HB.out⟩
theorem memForO (x0 x1 x2 x3 x4 x5 x6 : Value) (t : Tm) (b k : Nat) (cs : List Value) (w : World) (h : TmP w (Has w) t b k cs) (hn : t.nodes ≤ 3000) :
 Calls Tryz.prog 89 #[.pointer (some ⟨b, k, none⟩), .agg #[x0, x1, x2, x3, x4, x5, x6]] w (RetNil w) := by
 have C : Hid (∀ W, Below w.heap.size w W → Calls Tryz.prog 114 #[.pointer (some ⟨b, k, none⟩)] W (RetB W false)) := fun W hb =>
  isLargeT t b k cs W ((h.below (In.has w) hb).more fun q hq => Nat.lt_of_lt_of_le hq hb.size) hn
 clear h hn
 go_enter Tryz.func89, Tryz.ntmps89
 go_wp2_with fail
 have hbx := below_alT w (.cells #[x0, x1, x2, x3, x4, x5, x6] 33)
 refine (C.out _ hbx).mono ?_
 rintro e w1 ⟨rfl, hb⟩
 have HB := hI (chain2 hbx hb (Nat.le_refl _))
 clear hb hbx
 go_wp2
 go_ret
 exact ⟨rfl, HB.out⟩
theorem memForE (x0 x1 : Value) (t : Tm) (b k : Nat) (cs : List Value) (w : World) (h : TmP w (Has w) t b k cs) (hn : t.nodes ≤ 3000) :
 Calls Tryz.prog 107 #[.pointer (some ⟨b, k, none⟩), .agg #[x0, x1]] w (RetNil w) := by
 have C : Hid (∀ W, Below w.heap.size w W → Calls Tryz.prog 114 #[.pointer (some ⟨b, k, none⟩)] W (RetB W false)) := fun W hb =>
  isLargeT t b k cs W ((h.below (In.has w) hb).more fun q hq => Nat.lt_of_lt_of_le hq hb.size) hn
 clear h hn
 go_enter Tryz.func107, Tryz.ntmps107
 go_wp2_with fail
 have hbx := below_alT w (.cells #[x0, x1] 125)
 refine (C.out _ hbx).mono ?_
 rintro e w1 ⟨rfl, hb⟩
 have HB := hI (chain2 hbx hb (Nat.le_refl _))
 clear hb hbx
 go_wp2
 go_ret
 exact ⟨rfl, HB.out⟩
def plV (A : Option Addr) (n : Nat) : Array Value := if n = 0 then #[.pointer none, .int .i64 0] else #[.pointer A, .int .i64 n]
theorem placeT (l : List Tm) (A : Option Addr) (c : Nat) (w : World) (S : Nat → Prop) (h : ArgsAt w S l A c) :
 Calls Tryz.prog 104 #[.slice A l.length c] w fun e w' => e = .returned (.agg (plV A l.length)) ∧ Below w.heap.size w w' := by
 have hc := h.1
 by_cases hl : 0 < l.length
 · obtain ⟨b, o, rfl, _⟩ := h.2 hl
   have e : plV (some ⟨b, o, none⟩) l.length = #[.pointer (some ⟨b, o, none⟩), .int .i64 l.length] := by unfold plV; rw [if_neg (by omega)]
   rw [e]
   clear h e
   generalize l.length = n at *
   have hn : ¬ (n : Int) = 0 := by omega
   have hn2 : ((n : Int) == 0) = false := by rw [beq_eq_false_iff_ne]; exact hn
   have T := heap_alloc_new w (.cells #[.pointer none, .int .i64 0] 112)
   go_enter Tryz.func104, Tryz.ntmps104
   go_wp2_with fail
   refine bodyPost_ret (results_cell_row rfl _ _ w.heap.size _ _ _ _ rfl (heap_alloc_new w _) Tryz.underlying112 rfl (by kernel_rfl)) rfl ⟨rfl, ?_⟩
   exact Below.alloc (Below.refl _ _) (Nat.le_refl _) _
 · have e0 : l.length = 0 := by omega
   have e : plV A l.length = #[.pointer none, .int .i64 0] := by unfold plV; rw [if_pos e0]
   rw [e, e0]
   clear h e hc hl e0
   go_enter Tryz.func104, Tryz.ntmps104
   go_wp2_with fail
   refine bodyPost_ret (results_cell_row rfl _ _ w.heap.size _ _ _ _ rfl (heap_alloc_new w _) Tryz.underlying112 rfl (by kernel_rfl)) rfl ⟨rfl, ?_⟩
   exact Below.alloc (Below.refl _ _) (Nat.le_refl _) _
theorem recallI (p q c0 c1 : Value) (r : Int) (w : World) (hp : p.oneCell' = true) (hq : q.oneCell' = true)
 (hc : ∀ W, Below w.heap.size w W → Calls Tryz.prog 153 #[c0, c1] W (RetI W r)) :
 Calls Tryz.prog 152 #[.pointer none, .agg #[p, q], .func (.func 153) #[] #[c0, c1]] w (RetI w r) := by
 have HC := hI hc
 clear hc
 have hcf : ∀ W : World, (callFunc 153 #[c0, c1]).run Tryz.prog W = .ok (.enter 153 #[c0, c1]) W := fun W => by go_simp
 have hbx := hI (below_alT w (.cells #[p, q] 112))
 go_enter Tryz.func152, Tryz.ntmps152
 go_wp2_with fail
 refine (HC.out _ hbx.out).mono ?_
 rintro e w1 ⟨rfl, hb⟩
 have HB := hI (chain2 hbx.out hb (Nat.le_refl _))
 clear hb hbx
 go_wp2
 go_ret
 exact ⟨rfl, HB.out⟩
def DpW (w wr : World) (l : List Tm) (i : Nat) (m R : Int) : Prop := max m (Tm.depL (l.drop i) : Int) = R ∧ 0 ≤ m ∧ m ≤ R ∧ Below w.heap.size w wr
theorem Tm.depL_drop {l : List Tm} {i : Nat} (hi : i < l.length) : Tm.depL (l.drop i) = max l[i].dep (Tm.depL (l.drop (i + 1))) := by rw [List.drop_eq_getElem_cons hi]; rfl
mutual
theorem Tm.dep_nodes : ∀ t : Tm, t.dep ≤ t.nodes
 | .var _ => by simp [Tm.dep, Tm.nodes]
 | .con o => by have := Tm.nodes_pos (.con o); simp only [Tm.dep]; omega
 | .app _ l => by have := Tm.depL_nodes l; simp only [Tm.dep, Tm.nodes]; omega
theorem Tm.depL_nodes : ∀ l : List Tm, Tm.depL l ≤ Tm.nodesL l
 | [] => by simp [Tm.depL]
 | t :: l => by have := Tm.dep_nodes t; have := Tm.depL_nodes l; simp only [Tm.depL, Tm.nodesL]; omega
end
theorem depth1 (l : List Tm) (b k Bt Bm : Nat) (A : Option Addr) (c : Nat) (w : World) (hbt : w.cell? ⟨Bt, 0, none⟩ = some (.pointer (some ⟨b, k, none⟩))) (hbm : w.cell? ⟨Bm, 0, none⟩ = some (.pointer none)) (hk : w.cell? ⟨b, k + 10, none⟩ = some (.slice A l.length c))
 (ha : ArgsAt w (Has w) l A c) (hn : Tm.nodesL l ≤ 3000)
 (ih : ∀ t ∈ l, ∀ (b1 k1 : Nat) (cs1 : List Value) (W : World), TmP W (Has W) t b1 k1 cs1 → Calls Tryz.prog 122 #[.pointer none, .pointer (some ⟨b1, k1, none⟩)] W (RetI W t.dep)) :
 Calls Tryz.prog 153 #[.pointer (some ⟨Bt, 0, none⟩), .pointer (some ⟨Bm, 0, none⟩)] w (RetI w (Tm.depL l)) := by
 have hLn := Tm.nodesL_len l
 have hdn := Tm.depL_nodes l
 obtain ⟨L, hL⟩ : ∃ L, l.length = L := ⟨_, rfl⟩
 obtain ⟨R, hR⟩ : ∃ R : Int, (Tm.depL l : Int) = R := ⟨_, rfl⟩
 have hR3 : R ≤ 3000 := by omega
 have hL3 : L ≤ 3000 := by omega
 have hcl := ha.1
 rw [hR]
 rw [hL] at hk hcl
 have HL := hI hL
 have HT0 := hI hbt
 have HT1 := hI (World.block_lt_of_cell? w _ hbt)
 have HM0 := hI hbm
 have HM1 := hI (World.block_lt_of_cell? w _ hbm)
 have HK0 := hI hk
 have HK1 := hI (World.block_lt_of_cell? w _ hk)
 have HA := hI ha
 have IH := hI ih
 have h0 : Hid (DpW w w l 0 0 R) := ⟨by rw [List.drop_zero]; omega, by omega, by omega, Below.refl _ _⟩
 clear hbm ha ih hL hR hLn hdn
 go_enter Tryz.func153, Tryz.ntmps153
 go_wp2_with fail
 go_loopw [3, 10] (fun u v wr => ∃ (i : Nat) (m : Int), i ≤ L ∧ u = .int .i64 m ∧ v = .int .i64 (i : Int) ∧ Hid (DpW w wr l i m R)) (fun _ v _ => L - (intOf v).toNat)
 case atStart => exact ⟨0, 0, Nat.zero_le _, rfl, rfl, h0⟩
 case round =>
  clear h0 hbt hk
  obtain ⟨i, m, hi, rfl, rfl, hE⟩ := hrel
  obtain ⟨wo, rfl⟩ : ∃ wo : World, wo = wr := ⟨_, rfl⟩
  obtain ⟨hS, hm0, hmR, hb0⟩ := hE.out
  clear hE
  by_cases hlt : i < L
  · have hil : i < l.length := by rw [HL.out]; exact hlt
    obtain ⟨b1, o1, cs1, rfl, hP⟩ := HA.out.arg hil
    have hs := Tm.depL_drop hil
    have CALL : Hid (∀ W, Below wo.heap.size wo W → Calls Tryz.prog 122 #[.pointer none, .pointer (some ⟨b1, o1 + i * 11, none⟩)] W (RetI W (l[i].dep : Nat))) := fun W hb =>
     IH.out l[i] (List.getElem_mem hil) b1 (o1 + i * 11) cs1 W ((hP.below (In.has w) (chain2 hb0 hb (Nat.le_refl _))).more fun q hq => Nat.lt_of_lt_of_le hq (chain2 hb0 hb (Nat.le_refl _)).size)
    have hS2 : max (max m (l[i].dep : Int)) (Tm.depL (l.drop (i + 1)) : Int) = R := by omega
    have hq0 : 0 ≤ (l[i].dep : Int) := by omega
    generalize (l[i].dep : Int) = q at CALL hS2 hq0
    have hmx0 : 0 ≤ max m q := by omega
    have hmx1 : max m q ≤ R := by omega
    replace HT0 := hI ((hb0.cell (p := ⟨Bt, 0, none⟩) HT1.out).trans HT0.out)
    replace HM0 := hI ((hb0.cell (p := ⟨Bm, 0, none⟩) HM1.out).trans HM0.out)
    replace HK0 := hI ((hb0.cell (p := ⟨b, k + 10, none⟩) HK1.out).trans HK0.out)
    replace HT1 := hI (Nat.lt_of_lt_of_le HT1.out hb0.size)
    replace HM1 := hI (Nat.lt_of_lt_of_le HM1.out hb0.size)
    replace HK1 := hI (Nat.lt_of_lt_of_le HK1.out hb0.size)
    have HB := hI hb0
    have HS2 := hI hS2
    clear hS hs hP hS2 hb0
    go_wp2_with fail
    refine wp_region_grow (l := _) 10 (by kernel_rfl) (by kernel_rfl) (fun i => [13, 14, 15, 16, 17, 18, 19, 20, 21, 22].getD i 0) (LR [LV (.int .i64 m), LV (.pointer none), LV (.pointer (some ⟨b, k, none⟩)), LV (.pointer (some ⟨b, k, none⟩)), LV (.pointer (some ⟨b, k + 10, none⟩)), LV (.slice (some ⟨b1, o1, none⟩) L c), LV (.int .i64 (i : Int)), LV (.pointer (some ⟨b1, o1 + i * 11, none⟩)), LV (.int .i64 (q)), LV (.int .i64 (max m q))]) (LR_mono ⟨mLV _, mLV _, mLV _, mLV _, mLV _, mLV _, mLV _, mLV _, mLV _, mLV _, trivial⟩) (by
     intro i j hi hj h
     exact inj_getD [13, 14, 15, 16, 17, 18, 19, 20, 21, 22] (by decide) i j hi hj h) (by
     intro i hi
     exact lt_getD 25 [13, 14, 15, 16, 17, 18, 19, 20, 21, 22] (by decide) i hi) ?step ?done
    case step =>
     intro ii hii a w9 v lo hi' hoth hb hw
     have sl0 : a.tmps[0]? = some (.pointer (some ⟨Bt, 0, none⟩)) := (hoth 0 (fun j hj => ne_getD 0 _ (by decide) j hj)).trans rfl
     have sl1 : a.tmps[1]? = some (.pointer (some ⟨Bm, 0, none⟩)) := (hoth 1 (fun j hj => ne_getD 1 _ (by decide) j hj)).trans rfl
     have sl3 : a.tmps[3]? = some (.int .i64 m) := (hoth 3 (fun j hj => ne_getD 3 _ (by decide) j hj)).trans rfl
     have sl4 : a.tmps[4]? = some (.int .i64 (i : Int)) := (hoth 4 (fun j hj => ne_getD 4 _ (by decide) j hj)).trans rfl
     match ii, hii with
     | 0, _ =>
      exact gw_move rfl (wanted_plain rfl) 3 _ rfl sl3 ⟨_, rfl, Below.refl _ _, rfl⟩
     | 1, _ =>
      have cc := (hb.cell (p := ⟨Bm, 0, none⟩) HM1.out).trans HM0.out
      refine wpOp_step rfl fun K' hK' => ?_
      rw [if_pos (wanted_plain rfl)]
      unfold Oper.wp
      simp only [execOp]
      go_simp
      exact hK' _ _ ⟨_, rfl, Below.refl _ _, rfl⟩
     | 2, _ =>
      have cc := (hb.cell (p := ⟨Bt, 0, none⟩) HT1.out).trans HT0.out
      refine wpOp_step rfl fun K' hK' => ?_
      rw [if_pos (wanted_plain rfl)]
      unfold Oper.wp
      simp only [execOp]
      go_simp
      exact hK' _ _ ⟨_, rfl, Below.refl _ _, rfl⟩
     | 3, _ =>
      obtain ⟨s0, r0, _⟩ := hw 2 (by omega) (by kernel_rfl)
      have e0 : v 2 = .pointer (some ⟨b, k, none⟩) := r0
      rw [e0] at s0
      replace s0 : a.tmps[15]? = some (.pointer (some ⟨b, k, none⟩)) := s0
      refine wpOp_step rfl fun K' hK' => ?_
      rw [if_pos (wanted_plain rfl)]
      unfold Oper.wp
      simp only [execOp]
      go_simp
      exact hK' _ _ ⟨_, rfl, Below.refl _ _, rfl⟩
     | 4, _ =>
      obtain ⟨s0, r0, _⟩ := hw 3 (by omega) (by kernel_rfl)
      have e0 : v 3 = .pointer (some ⟨b, k, none⟩) := r0
      rw [e0] at s0
      replace s0 : a.tmps[16]? = some (.pointer (some ⟨b, k, none⟩)) := s0
      refine wpOp_step rfl fun K' hK' => ?_
      rw [if_pos (wanted_plain rfl)]
      unfold Oper.wp
      simp only [execOp]
      go_simp
      exact hK' _ _ ⟨_, rfl, Below.refl _ _, rfl⟩
     | 5, _ =>
      obtain ⟨s0, r0, _⟩ := hw 4 (by omega) (by kernel_rfl)
      have e0 : v 4 = .pointer (some ⟨b, k + 10, none⟩) := r0
      rw [e0] at s0
      replace s0 : a.tmps[17]? = some (.pointer (some ⟨b, k + 10, none⟩)) := s0
      have cc := (hb.cell (p := ⟨b, k + 10, none⟩) HK1.out).trans HK0.out
      refine wpOp_step rfl fun K' hK' => ?_
      rw [if_pos (wanted_plain rfl)]
      unfold Oper.wp
      simp only [execOp]
      go_simp
      exact hK' _ _ ⟨_, rfl, Below.refl _ _, rfl⟩
     | 6, _ =>
      exact gw_move rfl (wanted_plain rfl) 4 _ rfl sl4 ⟨_, rfl, Below.refl _ _, rfl⟩
     | 7, _ =>
      obtain ⟨s0, r0, _⟩ := hw 5 (by omega) (by kernel_rfl)
      have e0 : v 5 = .slice (some ⟨b1, o1, none⟩) L c := r0
      rw [e0] at s0
      replace s0 : a.tmps[18]? = some (.slice (some ⟨b1, o1, none⟩) L c) := s0
      obtain ⟨s1, r1, _⟩ := hw 6 (by omega) (by kernel_rfl)
      have e1 : v 6 = .int .i64 (i : Int) := r1
      rw [e1] at s1
      replace s1 : a.tmps[19]? = some (.int .i64 (i : Int)) := s1
      refine wpOp_step rfl fun K' hK' => ?_
      rw [if_pos (wanted_plain rfl)]
      unfold Oper.wp
      simp only [execOp]
      go_simp
      exact hK' _ _ ⟨_, rfl, Below.refl _ _, rfl⟩
     | 8, _ =>
      obtain ⟨s0, r0, _⟩ := hw 1 (by omega) (by kernel_rfl)
      have e0 : v 1 = .pointer none := r0
      rw [e0] at s0
      replace s0 : a.tmps[14]? = some (.pointer none) := s0
      obtain ⟨s1, r1, _⟩ := hw 7 (by omega) (by kernel_rfl)
      have e1 : v 7 = .pointer (some ⟨b1, o1 + i * 11, none⟩) := r1
      rw [e1] at s1
      replace s1 : a.tmps[20]? = some (.pointer (some ⟨b1, o1 + i * 11, none⟩)) := s1
      refine gw_tt rfl (wanted_plain rfl) 122 14 20 _ _ _ rfl (fun v u w => by go_simp) s0 s1 ?_
      with_reducible refine (CALL.out w9 hb).mono ?_
      rintro e w3 ⟨rfl, hb3⟩
      exact ⟨_, rfl, _, rfl, hb3, rfl⟩
     | 9, _ =>
      obtain ⟨s0, r0, _⟩ := hw 0 (by omega) (by kernel_rfl)
      have e0 : v 0 = .int .i64 m := r0
      rw [e0] at s0
      replace s0 : a.tmps[13]? = some (.int .i64 m) := s0
      obtain ⟨s1, r1, _⟩ := hw 8 (by omega) (by kernel_rfl)
      have e1 : v 8 = .int .i64 (q) := r1
      rw [e1] at s1
      replace s1 : a.tmps[21]? = some (.int .i64 (q)) := s1
      refine wpOp_step rfl fun K' hK' => ?_
      rw [if_pos (wanted_plain rfl)]
      unfold Oper.wp
      simp only [execOp]
      go_simp
      exact hK' _ _ ⟨_, rfl, Below.refl _ _, rfl⟩
    case done =>
     intro a w9 v lo hi' hdef hsz hoth hb hj hap
     obtain ⟨_, hv9, _, _⟩ := hj 9 (by omega)
     have ha := eq_puts hdef hsz hoth (fun i hi => (hj i hi).1)
     subst ha
     clear hj hoth hdef hsz hap
     change v 9 = _ at hv9
     simp only [puts, List.getD_cons_zero, List.getD_cons_succ, hv9]
     generalize v 0 = v0
     generalize v 1 = v1
     generalize v 2 = v2
     generalize v 3 = v3
     generalize v 4 = v4
     generalize v 5 = v5
     generalize v 6 = v6
     generalize v 7 = v7
     generalize v 8 = v8
     clear hv9
     simp only [Act.put, List.setIfInBounds_toArray, List.set_cons_zero, List.set_cons_succ]
     show wpList _ _ _ [_] _ _
     have hst : Hid (DpW w w9 l (i + 1) (max m q) R) := ⟨HS2.out, hmx0, hmx1, chain2 HB.out hb (Nat.le_refl _)⟩
     clear hb CALL
     go_wp2
     go_roundw
     case rel => exact ⟨i + 1, _, by omega, rfl, by go_num, hst⟩
     case measure => simp [intOf]; omega
  · have hiL : i = L := by omega
    have hn2 : ¬ (i : Int) < L := by omega
    have hmR' : m = R := by
     rw [hiL, ← HL.out, List.drop_length] at hS
     simp only [Tm.depL] at hS
     omega
    subst hmR'
    have HB := hI hb0
    clear hS hiL hlt hb0
    go_wp2
    go_ret
    exact ⟨rfl, HB.out⟩
theorem TB.fr {W : World} {g : Nat} {cs : List Value} (h : TB W g cs) (j : Nat) : W.frozen? ⟨g, j, none⟩ = false := by
 unfold TB at h
 simp [World.frozen?, h]
theorem TmQ.cells {w : World} {S : Nat → Prop} {t : Tm} {b k : Nat} {cs : List Value} (h : TmQ w S t b k cs) : ∃ x0 x1 x2 x3 x4 x5 x6 A c, cs = [.int .i64 t.kd, .string t.nm.1, .string t.nm.2, x0, x1, x2, x3, x4, x5, x6, .slice A t.args.length c] ∧
 ValAt w S t [x0, x1, x2, x3, x4, x5, x6] ∧ ArgsAt w S t.args A c ∧
 w.cell? ⟨b, k, none⟩ = some (.int .i64 t.kd) ∧ w.cell? ⟨b, k + 1, none⟩ = some (.string t.nm.1) ∧ w.cell? ⟨b, k + 2, none⟩ = some (.string t.nm.2) ∧ w.cell? ⟨b, k + 3, none⟩ = some x0 ∧ w.cell? ⟨b, k + 4, none⟩ = some x1 ∧ w.cell? ⟨b, k + 5, none⟩ = some x2 ∧ w.cell? ⟨b, k + 6, none⟩ = some x3 ∧ w.cell? ⟨b, k + 7, none⟩ = some x4 ∧ w.cell? ⟨b, k + 8, none⟩ = some x5 ∧ w.cell? ⟨b, k + 9, none⟩ = some x6 ∧ w.cell? ⟨b, k + 10, none⟩ = some (.slice A t.args.length c) := by
 obtain ⟨_, h1, h2⟩ := h
 obtain ⟨v, A, c, rfl, hv, ha⟩ := h1.open
 have hl := hv.length
 match v, hl, hv, h2 with
 | [x0, x1, x2, x3, x4, x5, x6], _, hv, h2 =>
  exact ⟨x0, x1, x2, x3, x4, x5, x6, A, c, rfl, hv, ha, h2 0 _ rfl, h2 1 _ rfl, h2 2 _ rfl, h2 3 _ rfl, h2 4 _ rfl, h2 5 _ rfl, h2 6 _ rfl, h2 7 _ rfl, h2 8 _ rfl, h2 9 _ rfl, h2 10 _ rfl⟩
theorem TsV.one {w : World} {S : Nat → Prop} {l : List Tm} {v : Value} (h : TsV w S l v) : v.oneCell' = true := by
 obtain ⟨A, c, rfl, _⟩ := h; rfl
def LEd (w0 : World) (S : Nat → Prop) (l : List Tm) (r : Bool) : Lv := fun v _ _ w => w0.heap.size ≤ w.heap.size ∧ ∃ u, v = .agg #[u, .bool r] ∧ TsV w (Upto w0 w S) l u
theorem mLEd {w0 : World} {S : Nat → Prop} (hS : In S w0) (l : List Tm) (r : Bool) : Mon (LEd w0 S l r) := fun _ _ _ _ _ ⟨h0, u, h, k⟩ _ hb => ⟨Nat.le_trans h0 hb.size, u, h, k.keep (fun b hb' => upto_more hb.size b hb') (fun b hb' => hb.block b (upto_lt hS h0 b hb'))⟩
def LEx : Lv := fun v lo hi w => v = .pointer (some ⟨lo, 0, none⟩) ∧ EB2 w lo (.slice none 0 0) false ∧ lo < hi
theorem mLEx : Mon LEx := fun _ _ _ _ _ ⟨h, k, l⟩ hm hb => ⟨h, (hb.block _ (by omega)).trans k, l⟩
theorem RetEd.boxed {w X : World} {S : Nat → Prop} {l : List Tm} {r : Bool} {u : Value} {g : Nat} (hT : TsV X (Upto w X S) l u) (hB : Below w.heap.size w X) (hg : w.heap.size ≤ g) (hE : EB2 X g (.slice none 0 0) false) :
 RetEd w S l r (.returned (.agg #[u, .bool r])) (X.setRow g #[u, .bool r]) := by
 refine ⟨u, rfl, ?_, below_setRowO hB hg _⟩
 refine (hT.nbox hE.nb).keep (fun b hb => ?_) (fun b hb => setRow_other X _ b _ hb.2)
 rcases hb.1 with h | ⟨h, h'⟩
 · exact .inl h
 · exact .inr ⟨h, by rw [size_setRow]; exact h'⟩
theorem recallE (p q c0 c1 : Value) (l : List Tm) (r : Bool) (w : World) (S : Nat → Prop) (hS : In S w) (hp : p.oneCell' = true) (hq : q.oneCell' = true)
 (hc : ∀ W, Below w.heap.size w W → Calls Tryz.prog 105 #[c0, c1] W (RetEd W S l r)) :
 Calls Tryz.prog 103 #[.pointer none, .agg #[p, q], .func (.func 105) #[] #[c0, c1]] w (RetEd w S l r) := by
 have HC := hI hc
 clear hc
 have hcf : ∀ W : World, (callFunc 105 #[c0, c1]).run Tryz.prog W = .ok (.enter 105 #[c0, c1]) W := fun W => by go_simp
 have hbx := hI (Below.alloc (below_alT w (.cells #[p, q] 112)) (by simp) (.cells #[.slice none 0 0, .bool false] 125))
 have B1 : Hid (EB2 ((w.alloc (.cells #[p, q] 112)).alloc (.cells #[.slice none 0 0, .bool false] 125)) (w.heap.size + 1) (.slice none 0 0) false) := heap_alloc2_new w _ _
 go_enter Tryz.func103, Tryz.ntmps103
 go_wp2_with fail
 refine (HC.out _ hbx.out).mono ?_
 rintro e w1 ⟨u, rfl, hT, hb⟩
 have HB := hI (chain2 hbx.out hb (Nat.le_refl _))
 have HT : Hid (TsV w1 (Upto w w1 S) l u) := hT.more fun b hb' => up3 hbx.out (Below.refl _ _) b hb'
 have B2 := hI (B1.out.keep hb)
 have hu := hT.one
 clear hb hbx hT B1
 go_wp2_with ((with_reducible refine EB2.store (u := u) (s := r) (.tmp 6) (.tmp 13) ?_ ?_ ?_ ?_ B2.out ?_ ?_); rfl; rfl; rfl; rfl; exact hu)
 exact retEB2 rfl rfl B2.out.set (RetEd.boxed HT.out HB.out (by omega) B2.out)
theorem parts1E (b k Be Bt ge : Nat) (l l2 : List Tm) (r : Bool) (A : Option Addr) (c : Nat) (w : World) (S : Nat → Prop) (hS : In S w) (hbe : w.cell? ⟨Be, 0, none⟩ = some (.pointer (some ⟨ge, 0, none⟩))) (hbt : w.cell? ⟨Bt, 0, none⟩ = some (.pointer (some ⟨b, k, none⟩))) (hk : w.cell? ⟨b, k + 10, none⟩ = some (.slice A l.length c))
 (hc : ∀ W, Below w.heap.size w W → Calls Tryz.prog 106 #[.pointer (some ⟨ge, 0, none⟩), .slice A l.length c] W (RetEd W S l2 r)) :
 Calls Tryz.prog 105 #[.pointer (some ⟨Be, 0, none⟩), .pointer (some ⟨Bt, 0, none⟩)] w (RetEd w S l2 r) := by
 have hA := below_alT w (.cells #[.slice none 0 0, .bool false] 125)
 have B1 : EB2 (w.alloc (.cells #[.slice none 0 0, .bool false] 125)) w.heap.size (.slice none 0 0) false := heap_alloc_new w _
 have hle := World.block_lt_of_cell? w _ hbe
 have hlt := World.block_lt_of_cell? w _ hbt
 have hlk := World.block_lt_of_cell? w _ hk
 have HE0 := hI ((hA.cell (p := ⟨Be, 0, none⟩) hle).trans hbe)
 have HT0 := hI ((hA.cell (p := ⟨Bt, 0, none⟩) hlt).trans hbt)
 have HK0 := hI ((hA.cell (p := ⟨b, k + 10, none⟩) hlk).trans hk)
 have HE1 := hI (Nat.lt_of_lt_of_le hle hA.size)
 have HT1 := hI (Nat.lt_of_lt_of_le hlt hA.size)
 have HK1 := hI (Nat.lt_of_lt_of_le hlk hA.size)
 have CALL : Hid (∀ W, Below (w.alloc (.cells #[.slice none 0 0, .bool false] 125)).heap.size (w.alloc (.cells #[.slice none 0 0, .bool false] 125)) W → Calls Tryz.prog 106 #[.pointer (some ⟨ge, 0, none⟩), .slice A l.length c] W (RetEd W S l2 r)) := fun W hw => hc W (chain2 hA hw (Nat.le_refl _))
 have HA := hI hA
 have HSW := hI (hS.later hA.size)
 have HB1 := hI B1
 clear hA B1 hle hlt hlk hbe hbt hk hc hS
 go_enter Tryz.func105, Tryz.ntmps105
 go_wp2_with fail
 generalize (w.alloc (.cells #[.slice none 0 0, .bool false] 125)) = W at *
 refine wp_region_grow (l := _) 6 (by kernel_rfl) (by kernel_rfl) (fun i => [3, 4, 5, 6, 7, 8].getD i 0) (LR [LV (.pointer (some ⟨ge, 0, none⟩)), LV (.pointer (some ⟨b, k, none⟩)), LV (.pointer (some ⟨b, k, none⟩)), LV (.pointer (some ⟨b, k + 10, none⟩)), LV (.slice A l.length c), LEd W S l2 r]) (LR_mono ⟨mLV _, mLV _, mLV _, mLV _, mLV _, mLEd HSW.out _ _, trivial⟩) (by
  intro i j hi hj h
  exact inj_getD [3, 4, 5, 6, 7, 8] (by decide) i j hi hj h) (by
  intro i hi
  exact lt_getD 9 [3, 4, 5, 6, 7, 8] (by decide) i hi) ?step ?done
 case step =>
  intro ii hii a w9 v lo hi' hoth hb hw
  have sl0 : a.tmps[0]? = some (.pointer (some ⟨Be, 0, none⟩)) := (hoth 0 (fun j hj => ne_getD 0 _ (by decide) j hj)).trans rfl
  have sl1 : a.tmps[1]? = some (.pointer (some ⟨Bt, 0, none⟩)) := (hoth 1 (fun j hj => ne_getD 1 _ (by decide) j hj)).trans rfl
  match ii, hii with
  | 0, _ =>
   have cc := (hb.cell (p := ⟨Be, 0, none⟩) HE1.out).trans HE0.out
   refine wpOp_step rfl fun K' hK' => ?_
   rw [if_pos (wanted_plain rfl)]
   unfold Oper.wp
   simp only [execOp]
   go_simp
   exact hK' _ _ ⟨_, rfl, Below.refl _ _, rfl⟩
  | 1, _ =>
   have cc := (hb.cell (p := ⟨Bt, 0, none⟩) HT1.out).trans HT0.out
   refine wpOp_step rfl fun K' hK' => ?_
   rw [if_pos (wanted_plain rfl)]
   unfold Oper.wp
   simp only [execOp]
   go_simp
   exact hK' _ _ ⟨_, rfl, Below.refl _ _, rfl⟩
  | 2, _ =>
   obtain ⟨s0, r0, _⟩ := hw 1 (by omega) (by kernel_rfl)
   have e0 : v 1 = .pointer (some ⟨b, k, none⟩) := r0
   rw [e0] at s0
   replace s0 : a.tmps[4]? = some (.pointer (some ⟨b, k, none⟩)) := s0
   refine wpOp_step rfl fun K' hK' => ?_
   rw [if_pos (wanted_plain rfl)]
   unfold Oper.wp
   simp only [execOp]
   go_simp
   exact hK' _ _ ⟨_, rfl, Below.refl _ _, rfl⟩
  | 3, _ =>
   obtain ⟨s0, r0, _⟩ := hw 2 (by omega) (by kernel_rfl)
   have e0 : v 2 = .pointer (some ⟨b, k, none⟩) := r0
   rw [e0] at s0
   replace s0 : a.tmps[5]? = some (.pointer (some ⟨b, k, none⟩)) := s0
   refine wpOp_step rfl fun K' hK' => ?_
   rw [if_pos (wanted_plain rfl)]
   unfold Oper.wp
   simp only [execOp]
   go_simp
   exact hK' _ _ ⟨_, rfl, Below.refl _ _, rfl⟩
  | 4, _ =>
   obtain ⟨s0, r0, _⟩ := hw 3 (by omega) (by kernel_rfl)
   have e0 : v 3 = .pointer (some ⟨b, k + 10, none⟩) := r0
   rw [e0] at s0
   replace s0 : a.tmps[6]? = some (.pointer (some ⟨b, k + 10, none⟩)) := s0
   have cc := (hb.cell (p := ⟨b, k + 10, none⟩) HK1.out).trans HK0.out
   refine wpOp_step rfl fun K' hK' => ?_
   rw [if_pos (wanted_plain rfl)]
   unfold Oper.wp
   simp only [execOp]
   go_simp
   exact hK' _ _ ⟨_, rfl, Below.refl _ _, rfl⟩
  | 5, _ =>
   obtain ⟨s0, r0, _⟩ := hw 0 (by omega) (by kernel_rfl)
   have e0 : v 0 = .pointer (some ⟨ge, 0, none⟩) := r0
   rw [e0] at s0
   replace s0 : a.tmps[3]? = some (.pointer (some ⟨ge, 0, none⟩)) := s0
   obtain ⟨s1, r1, _⟩ := hw 4 (by omega) (by kernel_rfl)
   have e1 : v 4 = .slice A l.length c := r1
   rw [e1] at s1
   replace s1 : a.tmps[7]? = some (.slice A l.length c) := s1
   refine gw_tt rfl (wanted_plain rfl) 106 3 7 _ _ _ rfl (fun v u w => by go_simp) s0 s1 ?_
   with_reducible refine (CALL.out w9 hb).mono ?_
   rintro e w3 ⟨u, rfl, hT, hb3⟩
   exact ⟨_, rfl, _, rfl, hb3, Nat.le_trans hb.size hb3.size, u, rfl, hT.more (fun b hb' => up3 (Below.refl _ W) hb b hb')⟩
 case done =>
  intro a w9 v lo hi' hdef hsz hoth hb hj hap
  obtain ⟨_, ⟨hz5, u, hv5, hT⟩, hlo5, hhi5⟩ := hj 5 (by omega)
  have ha := eq_puts hdef hsz hoth (fun i hi => (hj i hi).1)
  subst ha
  clear hj hoth hdef hsz hap
  simp only [puts, List.getD_cons_zero, List.getD_cons_succ, hv5]
  generalize v 0 = v0
  generalize v 1 = v1
  generalize v 2 = v2
  generalize v 3 = v3
  generalize v 4 = v4
  clear hv5
  simp only [Act.put, List.setIfInBounds_toArray, List.set_cons_zero, List.set_cons_succ]
  show wpList _ _ _ [_] _ _
  have HB := hI (HA.out.trans (hb.mono HA.out.size))
  have B2 := hI (HB1.out.keep hb)
  have HT : Hid (TsV w9 (Upto w w9 S) l2 u) := hT.more fun b hb' => up3 HA.out (Below.refl _ _) b hb'
  have hu := hT.one
  clear hb CALL hT
  go_wp2_with ((with_reducible refine EB2.store (u := u) (s := r) (.tmp 2) (.tmp 8) ?_ ?_ ?_ ?_ B2.out ?_ ?_); rfl; rfl; rfl; rfl; exact hu)
  exact retEB2 rfl rfl B2.out.set (RetEd.boxed HT.out HB.out (Nat.le_refl _) B2.out)
def ptM (ed : Tm → Tm) : Tm → Tm
 | .app s l => .app s (l.map ed)
 | t => t
def chM (ch : Tm → Bool) : Tm → Bool
 | .app _ l => l.any ch
 | _ => false
theorem RetTB.mk {w X : World} {S : Nat → Prop} {t : Tm} {r : Bool} {cs : List Value} (hB : Below w.heap.size w X) (h : TmAt X (Upto w X S) t cs) : RetTB w S t r (.returned (.tuple #[vTm cs, .bool r])) X := ⟨cs, rfl, h, hB⟩
theorem TmAt.boxed {w X : World} {S : Nat → Prop} {t : Tm} {cs : List Value} {g : Nat} (h : TmAt X (Upto w X S) t cs) (hg : NB X g) (y : Array Value) : TmAt (X.setRow g y) (Upto w (X.setRow g y) S) t cs := by
 refine TmAt.keep (fun b hb => ?_) (fun b hb => setRow_other X _ b _ hb.2) _ _ (TmAt.nbox hg _ _ h)
 rcases hb.1 with h | ⟨h, h'⟩
 · exact .inl h
 · exact .inr ⟨h, by rw [size_setRow]; exact h'⟩
theorem partsE (f : FuncId) (caps : Array Value) (ed : Tm → Tm) (ch : Tm → Bool) (t : Tm) (b k ge : Nat) (cs : List Value) (w : World) (S : Nat → Prop) (hS : In S w) (he : EdAt w ge f caps) (hP : TmQ w S t b k cs) (hn : t.nodes ≤ 3000)
 (hcf : ∀ (v : Value) (W : World), (callFunc f (#[v] ++ caps)).run Tryz.prog W = .ok (.enter f (#[v] ++ caps)) W)
 (ke : ∀ x ∈ t.args, ∀ (W : World) (b k : Nat) (cs : List Value), Below w.heap.size w W → TmQ W S x b k cs → Calls Tryz.prog f (#[.pointer (some ⟨b, k, none⟩)] ++ caps) W (RetTB W S (ed x) (ch x)))
 (hne : ∀ x ∈ t.args, ch x = false → ed x = x) :
 Calls Tryz.prog 77 #[.pointer (some ⟨ge, 0, none⟩), .pointer (some ⟨b, k, none⟩)] w (RetTB w S (ptM ed t) (chM ch t)) := by
 have hA : Below w.heap.size w (((w.alloc (.cells #[.pointer (some ⟨ge, 0, none⟩)] 95)).alloc (.cells #[.pointer (some ⟨b, k, none⟩)] 91)).alloc (.cells #[.int .i64 0, .string ⟨#[]⟩, .string ⟨#[]⟩, .int .i64 0, .string ⟨#[]⟩, .string ⟨#[]⟩, .string ⟨#[]⟩, .string ⟨#[]⟩, .string ⟨#[]⟩, .slice none 0 0, .slice none 0 0] 35)) := Below.alloc (Below.alloc (Below.alloc (Below.refl _ _) (Nat.le_refl _) _) (by simp) _) (by simp; omega) _
 have hbe : (((w.alloc (.cells #[.pointer (some ⟨ge, 0, none⟩)] 95)).alloc (.cells #[.pointer (some ⟨b, k, none⟩)] 91)).alloc (.cells #[.int .i64 0, .string ⟨#[]⟩, .string ⟨#[]⟩, .int .i64 0, .string ⟨#[]⟩, .string ⟨#[]⟩, .string ⟨#[]⟩, .string ⟨#[]⟩, .string ⟨#[]⟩, .slice none 0 0, .slice none 0 0] 35)).cell? ⟨w.heap.size, 0, none⟩ = some (.pointer (some ⟨ge, 0, none⟩)) := by rw [cell_of_row _ _ _ _ _ _ ((Below.heap_alloc _ _ _ (by simp; omega)).trans (heap_alloc2_old w _ _))]; rfl
 have hbt : (((w.alloc (.cells #[.pointer (some ⟨ge, 0, none⟩)] 95)).alloc (.cells #[.pointer (some ⟨b, k, none⟩)] 91)).alloc (.cells #[.int .i64 0, .string ⟨#[]⟩, .string ⟨#[]⟩, .int .i64 0, .string ⟨#[]⟩, .string ⟨#[]⟩, .string ⟨#[]⟩, .string ⟨#[]⟩, .string ⟨#[]⟩, .slice none 0 0, .slice none 0 0] 35)).cell? ⟨w.heap.size + 1, 0, none⟩ = some (.pointer (some ⟨b, k, none⟩)) := by rw [cell_of_row _ _ _ _ _ _ ((Below.heap_alloc _ _ _ (by simp)).trans (heap_alloc2_new w _ _))]; rfl
 have B4 : TB (((w.alloc (.cells #[.pointer (some ⟨ge, 0, none⟩)] 95)).alloc (.cells #[.pointer (some ⟨b, k, none⟩)] 91)).alloc (.cells #[.int .i64 0, .string ⟨#[]⟩, .string ⟨#[]⟩, .int .i64 0, .string ⟨#[]⟩, .string ⟨#[]⟩, .string ⟨#[]⟩, .string ⟨#[]⟩, .string ⟨#[]⟩, .slice none 0 0, .slice none 0 0] 35)) (w.heap.size + 1 + 1) zT := heap_new_at (by simp)
 have hz : (((w.alloc (.cells #[.pointer (some ⟨ge, 0, none⟩)] 95)).alloc (.cells #[.pointer (some ⟨b, k, none⟩)] 91)).alloc (.cells #[.int .i64 0, .string ⟨#[]⟩, .string ⟨#[]⟩, .int .i64 0, .string ⟨#[]⟩, .string ⟨#[]⟩, .string ⟨#[]⟩, .string ⟨#[]⟩, .string ⟨#[]⟩, .slice none 0 0, .slice none 0 0] 35)).heap.size = w.heap.size + 3 := by simp
 have hQ := hP.below hS hA
 obtain ⟨x0, x1, x2, x3, x4, x5, x6, A, c, ecs, hv, ha, l0, l1, l2, l3, l4, l5, l6, l7, l8, l9, l10⟩ := hQ.cells
 have O11 := hI hQ.2.1.o11
 have HQT := hI hQ.2.1
 have HSW := hI (hS.later hA.size)
 have HA := hI hA
 have HB4 := hI B4
 have HED := hI (he.keep hA)
 have HE0 := hI hbe
 have HT0 := hI hbt
 have HEl : Hid (w.heap.size < (((w.alloc (.cells #[.pointer (some ⟨ge, 0, none⟩)] 95)).alloc (.cells #[.pointer (some ⟨b, k, none⟩)] 91)).alloc (.cells #[.int .i64 0, .string ⟨#[]⟩, .string ⟨#[]⟩, .int .i64 0, .string ⟨#[]⟩, .string ⟨#[]⟩, .string ⟨#[]⟩, .string ⟨#[]⟩, .string ⟨#[]⟩, .slice none 0 0, .slice none 0 0] 35)).heap.size) := (by show _ < _; omega)
 have HTl : Hid (w.heap.size + 1 < (((w.alloc (.cells #[.pointer (some ⟨ge, 0, none⟩)] 95)).alloc (.cells #[.pointer (some ⟨b, k, none⟩)] 91)).alloc (.cells #[.int .i64 0, .string ⟨#[]⟩, .string ⟨#[]⟩, .int .i64 0, .string ⟨#[]⟩, .string ⟨#[]⟩, .string ⟨#[]⟩, .string ⟨#[]⟩, .string ⟨#[]⟩, .slice none 0 0, .slice none 0 0] 35)).heap.size) := (by show _ < _; omega)
 have HKl : Hid (b < (((w.alloc (.cells #[.pointer (some ⟨ge, 0, none⟩)] 95)).alloc (.cells #[.pointer (some ⟨b, k, none⟩)] 91)).alloc (.cells #[.int .i64 0, .string ⟨#[]⟩, .string ⟨#[]⟩, .int .i64 0, .string ⟨#[]⟩, .string ⟨#[]⟩, .string ⟨#[]⟩, .string ⟨#[]⟩, .string ⟨#[]⟩, .slice none 0 0, .slice none 0 0] 35)).heap.size) := hQ.1.1
 have hv6 := hv
 clear hA hbe hbt B4 hQ hP he hv
 cases t with
 | var s =>
  change _ = some (Value.int .i64 1) at l0
  subst ecs
  have HR : Hid (∀ X cs', Below w.heap.size w X → TmAt X (Upto w X S) (.var s) cs' → RetTB w S (ptM ed (.var s)) (chM ch (.var s)) (.returned (.tuple #[vTm cs', .bool false])) X) := fun X cs' hB h => RetTB.mk hB h
  clear ke hne ha hcf hS
  go_enter Tryz.func77, Tryz.ntmps77
  go_wp2_with ((with_reducible refine storeTb (cs := [.int .i64 1, .string s.1, .string s.2, x0, x1, x2, x3, x4, x5, x6, .slice A 0 c]) (.tmp 4) (.tmp 15) ?_ ?_ ?_ ?_ HB4.out ?_ ?_ ?_ ?_); rfl; rfl; rfl; rfl; rfl; exact O11.out.1; exact O11.out.2)
  exact retTbx rfl rfl rfl (HB4.out.set _) O11.out.1 (HR.out _ _ (below_setRowO HA.out (by omega) _) (TmAt.boxed (HQT.out.more fun b hb => .inl hb) HB4.out.nb _))
 | con o =>
  change _ = some (Value.int .i64 2) at l0
  subst ecs
  have HR : Hid (∀ X cs', Below w.heap.size w X → TmAt X (Upto w X S) (.con o) cs' → RetTB w S (ptM ed (.con o)) (chM ch (.con o)) (.returned (.tuple #[vTm cs', .bool false])) X) := fun X cs' hB h => RetTB.mk hB h
  clear ke hne ha hcf hS
  go_enter Tryz.func77, Tryz.ntmps77
  go_wp2_with ((with_reducible refine storeTb (cs := [.int .i64 2, .string ⟨#[]⟩, .string ⟨#[]⟩, x0, x1, x2, x3, x4, x5, x6, .slice A 0 c]) (.tmp 4) (.tmp 15) ?_ ?_ ?_ ?_ HB4.out ?_ ?_ ?_ ?_); rfl; rfl; rfl; rfl; rfl; exact O11.out.1; exact O11.out.2)
  exact retTbx rfl rfl rfl (HB4.out.set _) O11.out.1 (HR.out _ _ (below_setRowO HA.out (by omega) _) (TmAt.boxed (HQT.out.more fun b hb => .inl hb) HB4.out.nb _))
 | app s l =>
  change _ = some (Value.int .i64 3) at l0
  change _ = some (Value.slice A l.length c) at l10
  change ArgsAt _ _ l A c at ha
  subst ecs
  have hnl : l.length ≤ 3000 := by
   have h1 := Tm.nodesL_len l
   have h2 : (Tm.app s l).nodes = 1 + Tm.nodesL l := (by unfold Tm.nodes; rfl)
   omega
  have HS := hI hS
  have LC : Hid (∀ W', Below (((w.alloc (.cells #[.pointer (some ⟨ge, 0, none⟩)] 95)).alloc (.cells #[.pointer (some ⟨b, k, none⟩)] 91)).alloc (.cells #[.int .i64 0, .string ⟨#[]⟩, .string ⟨#[]⟩, .int .i64 0, .string ⟨#[]⟩, .string ⟨#[]⟩, .string ⟨#[]⟩, .string ⟨#[]⟩, .string ⟨#[]⟩, .slice none 0 0, .slice none 0 0] 35)).heap.size (((w.alloc (.cells #[.pointer (some ⟨ge, 0, none⟩)] 95)).alloc (.cells #[.pointer (some ⟨b, k, none⟩)] 91)).alloc (.cells #[.int .i64 0, .string ⟨#[]⟩, .string ⟨#[]⟩, .int .i64 0, .string ⟨#[]⟩, .string ⟨#[]⟩, .string ⟨#[]⟩, .string ⟨#[]⟩, .string ⟨#[]⟩, .slice none 0 0, .slice none 0 0] 35)) W' → Calls Tryz.prog 106 #[.pointer (some ⟨ge, 0, none⟩), .slice A l.length c] W' (RetEd W' S (l.map ed) (l.any ch))) := fun W' hw =>
   listE f caps ed ch l A c ge W' S (HS.out.later (chain2 HA.out hw (Nat.le_refl _)).size) (HED.out.keep hw) (ha.below HSW.out hw) hnl hcf (fun x hx W b k cs hW hq => ke x hx W b k cs (chain2 (chain2 HA.out hw (Nat.le_refl _)) hW (Nat.le_refl _)) hq) hne
  have hms := map_same (ed := ed) (ch := ch) (l := l) hne
  have PC0 : ∀ W, Below (((w.alloc (.cells #[.pointer (some ⟨ge, 0, none⟩)] 95)).alloc (.cells #[.pointer (some ⟨b, k, none⟩)] 91)).alloc (.cells #[.int .i64 0, .string ⟨#[]⟩, .string ⟨#[]⟩, .int .i64 0, .string ⟨#[]⟩, .string ⟨#[]⟩, .string ⟨#[]⟩, .string ⟨#[]⟩, .string ⟨#[]⟩, .slice none 0 0, .slice none 0 0] 35)).heap.size (((w.alloc (.cells #[.pointer (some ⟨ge, 0, none⟩)] 95)).alloc (.cells #[.pointer (some ⟨b, k, none⟩)] 91)).alloc (.cells #[.int .i64 0, .string ⟨#[]⟩, .string ⟨#[]⟩, .int .i64 0, .string ⟨#[]⟩, .string ⟨#[]⟩, .string ⟨#[]⟩, .string ⟨#[]⟩, .string ⟨#[]⟩, .slice none 0 0, .slice none 0 0] 35)) W → Calls Tryz.prog 104 #[.slice A l.length c] W (fun e w' => e = .returned (.agg (plV A l.length)) ∧ Below W.heap.size W w') := fun W hb => placeT l A c W S (ha.below HSW.out hb)
  obtain ⟨p0, p1, ep, ho0, ho1⟩ : ∃ p0 p1, plV A l.length = #[p0, p1] ∧ p0.oneCell' = true ∧ p1.oneCell' = true := by unfold plV; split <;> exact ⟨_, _, rfl, rfl, rfl⟩
  rw [ep] at PC0
  have HC : Hid (∀ X, Below (((w.alloc (.cells #[.pointer (some ⟨ge, 0, none⟩)] 95)).alloc (.cells #[.pointer (some ⟨b, k, none⟩)] 91)).alloc (.cells #[.int .i64 0, .string ⟨#[]⟩, .string ⟨#[]⟩, .int .i64 0, .string ⟨#[]⟩, .string ⟨#[]⟩, .string ⟨#[]⟩, .string ⟨#[]⟩, .string ⟨#[]⟩, .slice none 0 0, .slice none 0 0] 35)).heap.size (((w.alloc (.cells #[.pointer (some ⟨ge, 0, none⟩)] 95)).alloc (.cells #[.pointer (some ⟨b, k, none⟩)] 91)).alloc (.cells #[.int .i64 0, .string ⟨#[]⟩, .string ⟨#[]⟩, .int .i64 0, .string ⟨#[]⟩, .string ⟨#[]⟩, .string ⟨#[]⟩, .string ⟨#[]⟩, .string ⟨#[]⟩, .slice none 0 0, .slice none 0 0] 35)) X → X.cell? ⟨b, k, none⟩ = some (Value.int .i64 3) ∧ X.cell? ⟨b, k + 1, none⟩ = some (.string s.1) ∧ X.cell? ⟨b, k + 2, none⟩ = some (.string s.2) ∧ X.cell? ⟨b, k + 3, none⟩ = some x0 ∧ X.cell? ⟨b, k + 4, none⟩ = some x1 ∧ X.cell? ⟨b, k + 5, none⟩ = some x2 ∧ X.cell? ⟨b, k + 6, none⟩ = some x3 ∧ X.cell? ⟨b, k + 7, none⟩ = some x4 ∧ X.cell? ⟨b, k + 8, none⟩ = some x5 ∧ X.cell? ⟨b, k + 9, none⟩ = some x6 ∧ X.cell? ⟨b, k + 10, none⟩ = some (Value.slice A l.length c)) := fun X hX =>
   ⟨(hX.cell (p := ⟨b, k, none⟩) HKl.out).trans l0, (hX.cell (p := ⟨b, k + 1, none⟩) HKl.out).trans l1, (hX.cell (p := ⟨b, k + 2, none⟩) HKl.out).trans l2, (hX.cell (p := ⟨b, k + 3, none⟩) HKl.out).trans l3, (hX.cell (p := ⟨b, k + 4, none⟩) HKl.out).trans l4, (hX.cell (p := ⟨b, k + 5, none⟩) HKl.out).trans l5, (hX.cell (p := ⟨b, k + 6, none⟩) HKl.out).trans l6, (hX.cell (p := ⟨b, k + 7, none⟩) HKl.out).trans l7, (hX.cell (p := ⟨b, k + 8, none⟩) HKl.out).trans l8, (hX.cell (p := ⟨b, k + 9, none⟩) HKl.out).trans l9, (hX.cell (p := ⟨b, k + 10, none⟩) HKl.out).trans l10⟩
  have HK0 := hI l10
  have HZ := hI hz
  have HX6 : Hid ([x0, x1, x2, x3, x4, x5, x6] = zO) := (show _ = _ from hv6)
  have RES : Hid (ptM ed (.app s l) = .app s (l.map ed) ∧ chM ch (.app s l) = l.any ch) := ⟨rfl, rfl⟩
  rw [RES.out.1, RES.out.2]
  generalize l.any ch = r at LC hms ⊢
  have RC : Hid (∀ W, Below (((w.alloc (.cells #[.pointer (some ⟨ge, 0, none⟩)] 95)).alloc (.cells #[.pointer (some ⟨b, k, none⟩)] 91)).alloc (.cells #[.int .i64 0, .string ⟨#[]⟩, .string ⟨#[]⟩, .int .i64 0, .string ⟨#[]⟩, .string ⟨#[]⟩, .string ⟨#[]⟩, .string ⟨#[]⟩, .string ⟨#[]⟩, .slice none 0 0, .slice none 0 0] 35)).heap.size (((w.alloc (.cells #[.pointer (some ⟨ge, 0, none⟩)] 95)).alloc (.cells #[.pointer (some ⟨b, k, none⟩)] 91)).alloc (.cells #[.int .i64 0, .string ⟨#[]⟩, .string ⟨#[]⟩, .int .i64 0, .string ⟨#[]⟩, .string ⟨#[]⟩, .string ⟨#[]⟩, .string ⟨#[]⟩, .string ⟨#[]⟩, .slice none 0 0, .slice none 0 0] 35)) W → Calls Tryz.prog 103 #[.pointer none, .agg #[p0, p1], .func (.func 105) #[] #[.pointer (some ⟨w.heap.size, 0, none⟩), .pointer (some ⟨w.heap.size + 1, 0, none⟩)]] W (RetEd W S (l.map ed) r)) := fun W hw =>
   recallE p0 p1 _ _ (l.map ed) r W S (HSW.out.later hw.size) ho0 ho1 fun W' hw' => by
    have hc := chain2 hw hw' (Nat.le_refl _)
    refine parts1E b k w.heap.size (w.heap.size + 1) ge l (l.map ed) r A c W' S (HSW.out.later hc.size) ((hc.cell (p := ⟨w.heap.size, 0, none⟩) HEl.out).trans HE0.out) ((hc.cell (p := ⟨w.heap.size + 1, 0, none⟩) HTl.out).trans HT0.out) ((hc.cell (p := ⟨b, k + 10, none⟩) HKl.out).trans l10) fun W3' hw3 => LC.out W3' (chain2 hc hw3 (Nat.le_refl _))
  have PC := hI PC0
  have HMS := hI hms
  have l0' := l0
  clear PC0 l1 l2 l3 l4 l5 l6 l7 l8 l9 l10 ha hn hnl ke hne hcf hS ep ho0 ho1 hz hms LC RES hv6
  go_enter Tryz.func77, Tryz.ntmps77
  go_wp2_with fail
  generalize (((w.alloc (.cells #[.pointer (some ⟨ge, 0, none⟩)] 95)).alloc (.cells #[.pointer (some ⟨b, k, none⟩)] 91)).alloc (.cells #[.int .i64 0, .string ⟨#[]⟩, .string ⟨#[]⟩, .int .i64 0, .string ⟨#[]⟩, .string ⟨#[]⟩, .string ⟨#[]⟩, .string ⟨#[]⟩, .string ⟨#[]⟩, .slice none 0 0, .slice none 0 0] 35)) = W at *
  clear l0 l0'
  refine wp_region_grow (l := _) 12 (by kernel_rfl) (by kernel_rfl) (fun i => [16, 17, 18, 19, 20, 21, 22, 23, 24, 25, 26, 6].getD i 0) (LR [LV (.pointer (some ⟨ge, 0, none⟩)), LV (.pointer (some ⟨ge, 0, none⟩)), LV (.pointer (some ⟨ge, 1, none⟩)), LV (.pointer none), LV (.pointer (some ⟨b, k, none⟩)), LV (.pointer (some ⟨b, k, none⟩)), LV (.pointer (some ⟨b, k + 10, none⟩)), LV (.slice A l.length c), LV (.agg #[p0, p1]), LV (.func (.func 105) #[] #[.pointer (some ⟨w.heap.size, 0, none⟩), .pointer (some ⟨w.heap.size + 1, 0, none⟩)]), LEd W S (l.map ed) r, LEx]) (LR_mono ⟨mLV _, mLV _, mLV _, mLV _, mLV _, mLV _, mLV _, mLV _, mLV _, mLV _, mLEd HSW.out _ _, mLEx, trivial⟩) (by
   intro i j hi hj h
   exact inj_getD [16, 17, 18, 19, 20, 21, 22, 23, 24, 25, 26, 6] (by decide) i j hi hj h) (by
   intro i hi
   exact lt_getD 40 [16, 17, 18, 19, 20, 21, 22, 23, 24, 25, 26, 6] (by decide) i hi) ?step ?done
  case step =>
   intro ii hii a w9 v lo hi' hoth hb hw
   have sl2 : a.tmps[2]? = some (.pointer (some ⟨w.heap.size, 0, none⟩)) := (hoth 2 (fun j hj => ne_getD 2 _ (by decide) j hj)).trans rfl
   have sl3 : a.tmps[3]? = some (.pointer (some ⟨w.heap.size + 1, 0, none⟩)) := (hoth 3 (fun j hj => ne_getD 3 _ (by decide) j hj)).trans rfl
   match ii, hii with
   | 0, _ =>
    have cc := (hb.cell (p := ⟨w.heap.size, 0, none⟩) HEl.out).trans HE0.out
    refine wpOp_step rfl fun K' hK' => ?_
    rw [if_pos (wanted_plain rfl)]
    unfold Oper.wp
    simp only [execOp]
    go_simp
    exact hK' _ _ ⟨_, rfl, Below.refl _ _, rfl⟩
   | 1, _ =>
    obtain ⟨s0, r0, _⟩ := hw 0 (by omega) (by kernel_rfl)
    have e0 : v 0 = .pointer (some ⟨ge, 0, none⟩) := r0
    rw [e0] at s0
    replace s0 : a.tmps[16]? = some (.pointer (some ⟨ge, 0, none⟩)) := s0
    refine wpOp_step rfl fun K' hK' => ?_
    rw [if_pos (wanted_plain rfl)]
    unfold Oper.wp
    simp only [execOp]
    go_simp
    exact hK' _ _ ⟨_, rfl, Below.refl _ _, rfl⟩
   | 2, _ =>
    obtain ⟨s0, r0, _⟩ := hw 1 (by omega) (by kernel_rfl)
    have e0 : v 1 = .pointer (some ⟨ge, 0, none⟩) := r0
    rw [e0] at s0
    replace s0 : a.tmps[17]? = some (.pointer (some ⟨ge, 0, none⟩)) := s0
    refine wpOp_step rfl fun K' hK' => ?_
    rw [if_pos (wanted_plain rfl)]
    unfold Oper.wp
    simp only [execOp]
    go_simp
    exact hK' _ _ ⟨_, rfl, Below.refl _ _, rfl⟩
   | 3, _ =>
    obtain ⟨s0, r0, _⟩ := hw 2 (by omega) (by kernel_rfl)
    have e0 : v 2 = .pointer (some ⟨ge, 1, none⟩) := r0
    rw [e0] at s0
    replace s0 : a.tmps[18]? = some (.pointer (some ⟨ge, 1, none⟩)) := s0
    have cc := (HED.out.keep hb).c1
    refine wpOp_step rfl fun K' hK' => ?_
    rw [if_pos (wanted_plain rfl)]
    unfold Oper.wp
    simp only [execOp]
    go_simp
    exact hK' _ _ ⟨_, rfl, Below.refl _ _, rfl⟩
   | 4, _ =>
    have cc := (hb.cell (p := ⟨w.heap.size + 1, 0, none⟩) HTl.out).trans HT0.out
    refine wpOp_step rfl fun K' hK' => ?_
    rw [if_pos (wanted_plain rfl)]
    unfold Oper.wp
    simp only [execOp]
    go_simp
    exact hK' _ _ ⟨_, rfl, Below.refl _ _, rfl⟩
   | 5, _ =>
    obtain ⟨s0, r0, _⟩ := hw 4 (by omega) (by kernel_rfl)
    have e0 : v 4 = .pointer (some ⟨b, k, none⟩) := r0
    rw [e0] at s0
    replace s0 : a.tmps[20]? = some (.pointer (some ⟨b, k, none⟩)) := s0
    refine wpOp_step rfl fun K' hK' => ?_
    rw [if_pos (wanted_plain rfl)]
    unfold Oper.wp
    simp only [execOp]
    go_simp
    exact hK' _ _ ⟨_, rfl, Below.refl _ _, rfl⟩
   | 6, _ =>
    obtain ⟨s0, r0, _⟩ := hw 5 (by omega) (by kernel_rfl)
    have e0 : v 5 = .pointer (some ⟨b, k, none⟩) := r0
    rw [e0] at s0
    replace s0 : a.tmps[21]? = some (.pointer (some ⟨b, k, none⟩)) := s0
    refine wpOp_step rfl fun K' hK' => ?_
    rw [if_pos (wanted_plain rfl)]
    unfold Oper.wp
    simp only [execOp]
    go_simp
    exact hK' _ _ ⟨_, rfl, Below.refl _ _, rfl⟩
   | 7, _ =>
    obtain ⟨s0, r0, _⟩ := hw 6 (by omega) (by kernel_rfl)
    have e0 : v 6 = .pointer (some ⟨b, k + 10, none⟩) := r0
    rw [e0] at s0
    replace s0 : a.tmps[22]? = some (.pointer (some ⟨b, k + 10, none⟩)) := s0
    have cc := (hb.cell (p := ⟨b, k + 10, none⟩) HKl.out).trans HK0.out
    refine wpOp_step rfl fun K' hK' => ?_
    rw [if_pos (wanted_plain rfl)]
    unfold Oper.wp
    simp only [execOp]
    go_simp
    exact hK' _ _ ⟨_, rfl, Below.refl _ _, rfl⟩
   | 8, _ =>
    obtain ⟨s0, r0, _⟩ := hw 7 (by omega) (by kernel_rfl)
    have e0 : v 7 = .slice A l.length c := r0
    rw [e0] at s0
    replace s0 : a.tmps[23]? = some (.slice A l.length c) := s0
    refine gw_t rfl (wanted_plain rfl) 104 23 _ _ rfl (fun v w => by go_simp) s0 ?_
    with_reducible refine (PC.out w9 hb).mono ?_
    rintro e w3 ⟨rfl, hb3⟩
    exact ⟨_, rfl, _, rfl, hb3, rfl⟩
   | 9, _ =>
    refine wpOp_step rfl fun K' hK' => ?_
    rw [if_pos (wanted_plain rfl)]
    unfold Oper.wp
    simp only [execOp]
    simp only [Instr.makeFunc]
    go_simp
    exact hK' _ _ ⟨_, rfl, Below.refl _ _, rfl⟩
   | 10, _ =>
    obtain ⟨s0, r0, _⟩ := hw 3 (by omega) (by kernel_rfl)
    have e0 : v 3 = .pointer none := r0
    rw [e0] at s0
    replace s0 : a.tmps[19]? = some (.pointer none) := s0
    obtain ⟨s1, r1, _⟩ := hw 8 (by omega) (by kernel_rfl)
    have e1 : v 8 = .agg #[p0, p1] := r1
    rw [e1] at s1
    replace s1 : a.tmps[24]? = some (.agg #[p0, p1]) := s1
    obtain ⟨s2, r2, _⟩ := hw 9 (by omega) (by kernel_rfl)
    have e2 : v 9 = .func (.func 105) #[] #[.pointer (some ⟨w.heap.size, 0, none⟩), .pointer (some ⟨w.heap.size + 1, 0, none⟩)] := r2
    rw [e2] at s2
    replace s2 : a.tmps[25]? = some (.func (.func 105) #[] #[.pointer (some ⟨w.heap.size, 0, none⟩), .pointer (some ⟨w.heap.size + 1, 0, none⟩)]) := s2
    refine gw_ttt rfl (wanted_plain rfl) 103 19 24 25 _ _ _ _ rfl (fun v u x w => by go_simp) s0 s1 s2 ?_
    with_reducible refine (RC.out w9 hb).mono ?_
    rintro e w3 ⟨u, rfl, hT, hb3⟩
    exact ⟨_, rfl, _, rfl, hb3, Nat.le_trans hb.size hb3.size, u, rfl, hT.more (fun b hb' => up3 (Below.refl _ W) hb b hb')⟩
   | 11, _ =>
    refine wpOp_step rfl fun K' hK' => ?_
    rw [if_pos (wanted_plain rfl)]
    unfold Oper.wp
    simp only [execOp]
    go_simp
    exact hK' _ _ ⟨_, rfl, below_alT _ _, rfl, heap_alloc_new _ _, by simp⟩
  case done =>
   intro a w9 v lo hi' hdef hsz hoth hb hj hap
   obtain ⟨_, ⟨hz10, u, hv10, hT⟩, hlo10, hhi10⟩ := hj 10 (by omega)
   obtain ⟨_, ⟨hv11, hbx, hlt11⟩, hlo11, hhi11⟩ := hj 11 (by omega)
   have ha := eq_puts hdef hsz hoth (fun i hi => (hj i hi).1)
   subst ha
   clear hj hoth hdef hsz hap
   simp only [puts, List.getD_cons_zero, List.getD_cons_succ, hv10, hv11]
   generalize v 0 = v0
   generalize v 1 = v1
   generalize v 2 = v2
   generalize v 3 = v3
   generalize v 4 = v4
   generalize v 5 = v5
   generalize v 6 = v6
   generalize v 7 = v7
   generalize v 8 = v8
   generalize v 9 = v9
   clear hv10 hv11
   simp only [Act.put, List.setIfInBounds_toArray, List.set_cons_zero, List.set_cons_succ]
   show wpList _ _ _ [_] _ _
   have HB := hI (HA.out.trans (hb.mono HA.out.size))
   have HBW := hI hb
   have HT : Hid (TsV w9 (Upto w w9 S) (l.map ed) u) := hT.more fun b hb' => up3 HA.out (Below.refl _ _) b hb'
   have hu := hT.one
   have hX : Below W.heap.size W (w9.setRow (lo 11) #[u, .bool r]) := below_setRowO hb hlo11 _
   have hXw : Below w.heap.size w (w9.setRow (lo 11) #[u, .bool r]) := HA.out.trans (hX.mono HA.out.size)
   have hTX : TsV (w9.setRow (lo 11) #[u, .bool r]) (Upto w (w9.setRow (lo 11) #[u, .bool r]) S) (l.map ed) u := by
    refine (HT.out.nbox hbx.nb).keep (fun b hb => ?_) (fun b hb => setRow_other w9 _ b _ hb.2)
    rcases hb.1 with h | ⟨h, h'⟩
    · exact .inl h
    · exact .inr ⟨h, by rw [size_setRow]; exact h'⟩
   have hE6 : EB2 (w9.setRow (lo 11) #[u, .bool r]) (lo 11) u r := hbx.set
   have HXW := hI hX
   have HX := hI hXw
   have HTX := hI hTX
   have HBX := hI hbx
   clear hb hT hX hXw hTX RC PC HT hz10 hlt11 hlo11 hhi11 hlo10 hhi10 hbx
   go_upto_region 4 with ((with_reducible refine EB2.store (u := u) (s := r) (.tmp 6) (.tmp 26) ?_ ?_ ?_ ?_ HBX.out ?_ ?_); rfl; rfl; rfl; rfl; exact hu)
   generalize w9.setRow (lo 11) #[u, .bool r] = X at *
   generalize lo 11 = g6 at *
   have e0 := hE6.c0
   have e1 := hE6.c1
   have t0 := (HXW.out.cell (p := ⟨w.heap.size + 1, 0, none⟩) HTl.out).trans HT0.out
   obtain ⟨c0, c1, c2, c3, c4, c5, c6, c7, c8, c9, c10⟩ := HC.out X HXW.out
   have HB4X := hI (HB4.out.keep HXW.out)
   have hx6 := HX6.out
   unfold zO at hx6
   simp only [List.cons.injEq, and_true] at hx6
   obtain ⟨rfl, rfl, rfl, rfl, rfl, rfl, rfl⟩ := hx6
   cases r with
   | false =>
    have hm := HMS.out rfl
    have HTm : Hid (TmAt X (Upto w X S) (.app s (l.map ed)) [.int .i64 3, .string s.1, .string s.2, Value.int .i64 0, Value.string ⟨#[]⟩, Value.string ⟨#[]⟩, Value.string ⟨#[]⟩, Value.string ⟨#[]⟩, Value.string ⟨#[]⟩, Value.slice none 0 0, .slice A l.length c]) := by
     rw [hm]
     exact (HQT.out.below HSW.out HXW.out).more fun b hb => .inl hb
    clear hE6 HBX HMS HQT HTX HC
    go_wp2_with ((with_reducible refine storeTb (cs := [.int .i64 3, .string s.1, .string s.2, Value.int .i64 0, Value.string ⟨#[]⟩, Value.string ⟨#[]⟩, Value.string ⟨#[]⟩, Value.string ⟨#[]⟩, Value.string ⟨#[]⟩, Value.slice none 0 0, .slice A l.length c]) (.tmp 4) (.tmp 32) ?_ ?_ ?_ ?_ HB4X.out ?_ ?_ ?_ ?_); rfl; rfl; rfl; rfl; rfl; exact O11.out.1; exact O11.out.2)
    exact retTbx rfl rfl rfl (HB4X.out.set _) O11.out.1 (RetTB.mk (below_setRowO HX.out (by omega) _) (TmAt.boxed HTm.out HB4X.out.nb _))
   | true =>
    obtain ⟨A2, c2', hu2, hA2⟩ := HTX.out
    rw [List.length_map] at hu2
    subst hu2
    have TM : Hid (TmAt X (Upto w X S) (.app s (l.map ed)) [.int .i64 3, .string s.1, .string s.2, Value.int .i64 0, Value.string ⟨#[]⟩, Value.string ⟨#[]⟩, Value.string ⟨#[]⟩, Value.string ⟨#[]⟩, Value.string ⟨#[]⟩, Value.slice none 0 0, .slice A2 l.length c2']) := tmAt_app HTX.out
    clear hE6 HBX HMS HQT HTX HC
    clear hA2
    have T7 : TB (X.alloc (.cells #[Value.int .i64 3, .string s.1, .string s.2, Value.int .i64 0, Value.string ⟨#[]⟩, Value.string ⟨#[]⟩, Value.string ⟨#[]⟩, Value.string ⟨#[]⟩, Value.string ⟨#[]⟩, Value.slice none 0 0, .slice A l.length c] 35)) X.heap.size [.int .i64 3, .string s.1, .string s.2, Value.int .i64 0, Value.string ⟨#[]⟩, Value.string ⟨#[]⟩, Value.string ⟨#[]⟩, Value.string ⟨#[]⟩, Value.string ⟨#[]⟩, Value.slice none 0 0, .slice A l.length c] := heap_alloc_new X _
    have hY := below_alT X (.cells #[Value.int .i64 3, .string s.1, .string s.2, Value.int .i64 0, Value.string ⟨#[]⟩, Value.string ⟨#[]⟩, Value.string ⟨#[]⟩, Value.string ⟨#[]⟩, Value.string ⟨#[]⟩, Value.slice none 0 0, .slice A l.length c] 35)
    have HY := hI hY
    have hg6 : g6 < X.heap.size := World.block_lt_of_cell? X _ e0
    have y0 := (hY.cell (p := ⟨g6, 0, none⟩) hg6).trans e0
    have y10 : (X.alloc (.cells #[Value.int .i64 3, .string s.1, .string s.2, Value.int .i64 0, Value.string ⟨#[]⟩, Value.string ⟨#[]⟩, Value.string ⟨#[]⟩, Value.string ⟨#[]⟩, Value.string ⟨#[]⟩, Value.slice none 0 0, .slice A l.length c] 35)).cell? ⟨X.heap.size, 10, none⟩ = some (.slice A l.length c) := by rw [cell_of_row _ _ _ _ _ _ T7]; rfl
    have f10 : (X.alloc (.cells #[Value.int .i64 3, .string s.1, .string s.2, Value.int .i64 0, Value.string ⟨#[]⟩, Value.string ⟨#[]⟩, Value.string ⟨#[]⟩, Value.string ⟨#[]⟩, Value.string ⟨#[]⟩, Value.slice none 0 0, .slice A l.length c] 35)).frozen? ⟨X.heap.size, 10, none⟩ = false := TB.fr T7 10
    have T8 : Hid (TB ((X.alloc (.cells #[Value.int .i64 3, .string s.1, .string s.2, Value.int .i64 0, Value.string ⟨#[]⟩, Value.string ⟨#[]⟩, Value.string ⟨#[]⟩, Value.string ⟨#[]⟩, Value.string ⟨#[]⟩, Value.slice none 0 0, .slice A l.length c] 35)).setCell ⟨X.heap.size, 10, none⟩ (.slice A2 l.length c2')) X.heap.size [.int .i64 3, .string s.1, .string s.2, Value.int .i64 0, Value.string ⟨#[]⟩, Value.string ⟨#[]⟩, Value.string ⟨#[]⟩, Value.string ⟨#[]⟩, Value.string ⟨#[]⟩, Value.slice none 0 0, .slice A2 l.length c2']) := by
     have e := setCell_eq_setRow (X.alloc (.cells #[Value.int .i64 3, .string s.1, .string s.2, Value.int .i64 0, Value.string ⟨#[]⟩, Value.string ⟨#[]⟩, Value.string ⟨#[]⟩, Value.string ⟨#[]⟩, Value.string ⟨#[]⟩, Value.slice none 0 0, .slice A l.length c] 35)) X.heap.size 10 _ 35 (0, 0) (.slice A2 l.length c2') T7
     show TB _ _ _
     rw [e]
     exact setRow_heap _ _ _ _ _ _ T7
    have HB8 : Hid (Below X.heap.size X ((X.alloc (.cells #[Value.int .i64 3, .string s.1, .string s.2, Value.int .i64 0, Value.string ⟨#[]⟩, Value.string ⟨#[]⟩, Value.string ⟨#[]⟩, Value.string ⟨#[]⟩, Value.string ⟨#[]⟩, Value.slice none 0 0, .slice A l.length c] 35)).setCell ⟨X.heap.size, 10, none⟩ (.slice A2 l.length c2'))) := HY.out.setCell (p := ⟨X.heap.size, 10, none⟩) (Nat.le_refl _) _
    go_upto_region 7 with fail
    clear e0 e1 c0 c1 c2 c3 c4 c5 c6 c7 c8 c9 c10 t0 hY
    generalize (X.alloc (.cells #[Value.int .i64 3, .string s.1, .string s.2, Value.int .i64 0, Value.string ⟨#[]⟩, Value.string ⟨#[]⟩, Value.string ⟨#[]⟩, Value.string ⟨#[]⟩, Value.string ⟨#[]⟩, Value.slice none 0 0, .slice A l.length c] 35)) = Y at *
    clear T7
    go_upto_region 8 with fail
    generalize Y.setCell ⟨X.heap.size, 10, none⟩ (.slice A2 l.length c2') = Z at T8 HB8 ⊢
    have HB4Z := hI (HB4X.out.keep HB8.out)
    have HXZ := hI (chain2 HX.out HB8.out (Nat.le_refl _))
    have TMZ : Hid (TmAt Z (Upto w Z S) (.app s (l.map ed)) [.int .i64 3, .string s.1, .string s.2, Value.int .i64 0, Value.string ⟨#[]⟩, Value.string ⟨#[]⟩, Value.string ⟨#[]⟩, Value.string ⟨#[]⟩, Value.string ⟨#[]⟩, Value.slice none 0 0, .slice A2 l.length c2']) := TmAt.keep (fun b hb => upto_more HB8.out.size b hb) (fun b hb => HB8.out.block b (upto_lt HS.out HX.out.size b hb)) _ _ TM.out
    have hone := TMZ.out.one
    go_wp2_with (first | ((with_reducible refine loadTb (cs := [.int .i64 3, .string s.1, .string s.2, Value.int .i64 0, Value.string ⟨#[]⟩, Value.string ⟨#[]⟩, Value.string ⟨#[]⟩, Value.string ⟨#[]⟩, Value.string ⟨#[]⟩, Value.slice none 0 0, .slice A2 l.length c2']) (.tmp 7) ?_ ?_ ?_ T8.out ?_ ?_); rfl; rfl; rfl; rfl) | ((with_reducible refine storeTb (cs := [.int .i64 3, .string s.1, .string s.2, Value.int .i64 0, Value.string ⟨#[]⟩, Value.string ⟨#[]⟩, Value.string ⟨#[]⟩, Value.string ⟨#[]⟩, Value.string ⟨#[]⟩, Value.slice none 0 0, .slice A2 l.length c2']) (.tmp 4) (.tmp 39) ?_ ?_ ?_ ?_ HB4Z.out ?_ ?_ ?_ ?_); rfl; rfl; rfl; rfl; rfl; rfl; exact hone))
    exact retTbx rfl rfl rfl (HB4Z.out.set _) rfl (RetTB.mk (below_setRowO HXZ.out (by omega) _) (TmAt.boxed TMZ.out HB4Z.out.nb _))
section
variable {P : Program} {Q : Exit → Act → World → Prop} {ops : Array Oper}
theorem wpList_dyn {rest : List Oper} {o : Oper} {a : Act} {w : World} (hgd : o.guard = none) (sf s0 : Tmp) (f : FuncId) (caps : Array Value) (v0 : Value) (ts : Array TypeId) (hop : o.op = Op.call { callee := Callee.value (.tmp sf), args := #[.tmp s0], argTypes := ts })
 (hx : a.eval (.tmp sf) = .func (.func f) #[] caps) (h0 : a.eval (.tmp s0) = v0) (hf : ∀ (w : World), (callFunc f (#[v0] ++ caps)).run P w = .ok (.enter f (#[v0] ++ caps)) w)
 (hc : Calls P f (#[v0] ++ caps) w fun e w' => ∃ r, e = .returned r ∧ wpList P ops Q rest (a.put o.dst r) w') : wpList P ops Q (o :: rest) a w :=
 wpList_plain hgd fun K hK => by
  unfold Oper.wp
  have hf1 := hf w
  simp only [execOp, hop, resolve, invoke, hx, h0, List.map_toArray, List.map_cons, List.map_nil]
  go_simp
  refine hc.mono ?_
  rintro e w' ⟨r, rfl, h⟩
  exact hK _ _ h
end
theorem below_same {w : World} {g j : Nat} {cs : Array Value} {t : TypeId} {v : Value} (h : w.heap[g]? = some (.cells cs t (0, 0))) (hv : cs[j]? = some v) : Below w.heap.size w (w.setCell ⟨g, j, none⟩ v) := by
 have e := setCell_eq_setRow w g j cs t (0, 0) v h
 have e2 : cs.setIfInBounds j v = cs := by
  apply Array.ext_getElem?
  intro i
  by_cases hij : j = i
  · subst hij
    have hlt : j < cs.size := by
     rcases Nat.lt_or_ge j cs.size with h1 | h1
     · exact h1
     · rw [Array.getElem?_eq_none h1] at hv; cases hv
    rw [Array.getElem?_setIfInBounds_self_of_lt hlt, hv]
  · rw [Array.getElem?_setIfInBounds_ne hij]
 rw [e2, setRow_self w g cs t (0, 0) h] at e
 rw [e]
 exact Below.refl _ _
theorem EdAt.f1 {W : World} {g : Nat} {f : FuncId} {caps : Array Value} (h : EdAt W g f caps) : W.frozen? ⟨g, 1, none⟩ = false := by
 unfold EdAt at h
 simp [World.frozen?, h]
theorem wholeE (f : FuncId) (caps : Array Value) (ed : Tm → Tm) (ch : Tm → Bool) (t : Tm) (ge : Nat) (cs : List Value) (w : World) (S : Nat → Prop) (hS : In S w) (he : EdAt w ge f caps) (h : TmAt w S t cs) (hn : t.nodes ≤ 3000)
 (hcf : ∀ (v : Value) (W : World), (callFunc f (#[v] ++ caps)).run Tryz.prog W = .ok (.enter f (#[v] ++ caps)) W)
 (ke : ∀ (W : World) (b k : Nat) (cs : List Value), Below w.heap.size w W → TmQ W S t b k cs → Calls Tryz.prog f (#[.pointer (some ⟨b, k, none⟩)] ++ caps) W (RetTB W S (ed t) (ch t))) :
 Calls Tryz.prog 78 #[.pointer (some ⟨ge, 0, none⟩), vTm cs] w (RetT w S (ed t)) := by
 have h1 := h
 obtain ⟨x0, x1, x2, x3, x4, x5, x6, A, c, rfl, _, _⟩ := h1.eleven
 have hA : Below w.heap.size w ((w.alloc (.cells #[.int .i64 t.kd, .string t.nm.1, .string t.nm.2, x0, x1, x2, x3, x4, x5, x6, .slice A t.args.length c] 35)).alloc (.cells #[.int .i64 0, .string ⟨#[]⟩, .string ⟨#[]⟩, .int .i64 0, .string ⟨#[]⟩, .string ⟨#[]⟩, .string ⟨#[]⟩, .string ⟨#[]⟩, .string ⟨#[]⟩, .slice none 0 0, .slice none 0 0] 35)) := Below.alloc (Below.alloc (Below.refl _ _) (Nat.le_refl _) _) (by simp) _
 have B1 : TB ((w.alloc (.cells #[.int .i64 t.kd, .string t.nm.1, .string t.nm.2, x0, x1, x2, x3, x4, x5, x6, .slice A t.args.length c] 35)).alloc (.cells #[.int .i64 0, .string ⟨#[]⟩, .string ⟨#[]⟩, .int .i64 0, .string ⟨#[]⟩, .string ⟨#[]⟩, .string ⟨#[]⟩, .string ⟨#[]⟩, .string ⟨#[]⟩, .slice none 0 0, .slice none 0 0] 35)) w.heap.size [.int .i64 t.kd, .string t.nm.1, .string t.nm.2, x0, x1, x2, x3, x4, x5, x6, .slice A t.args.length c] := heap_alloc2_old w _ _
 have B2 : TB ((w.alloc (.cells #[.int .i64 t.kd, .string t.nm.1, .string t.nm.2, x0, x1, x2, x3, x4, x5, x6, .slice A t.args.length c] 35)).alloc (.cells #[.int .i64 0, .string ⟨#[]⟩, .string ⟨#[]⟩, .int .i64 0, .string ⟨#[]⟩, .string ⟨#[]⟩, .string ⟨#[]⟩, .string ⟨#[]⟩, .string ⟨#[]⟩, .slice none 0 0, .slice none 0 0] 35)) (w.heap.size + 1) zT := heap_alloc2_new w _ _
 have hz : ((w.alloc (.cells #[.int .i64 t.kd, .string t.nm.1, .string t.nm.2, x0, x1, x2, x3, x4, x5, x6, .slice A t.args.length c] 35)).alloc (.cells #[.int .i64 0, .string ⟨#[]⟩, .string ⟨#[]⟩, .int .i64 0, .string ⟨#[]⟩, .string ⟨#[]⟩, .string ⟨#[]⟩, .string ⟨#[]⟩, .string ⟨#[]⟩, .slice none 0 0, .slice none 0 0] 35)).heap.size = w.heap.size + 2 := by simp
 have hTA := h.below hS hA
 have hQ : TmQ ((w.alloc (.cells #[.int .i64 t.kd, .string t.nm.1, .string t.nm.2, x0, x1, x2, x3, x4, x5, x6, .slice A t.args.length c] 35)).alloc (.cells #[.int .i64 0, .string ⟨#[]⟩, .string ⟨#[]⟩, .int .i64 0, .string ⟨#[]⟩, .string ⟨#[]⟩, .string ⟨#[]⟩, .string ⟨#[]⟩, .string ⟨#[]⟩, .slice none 0 0, .slice none 0 0] 35)) S t w.heap.size 0 [.int .i64 t.kd, .string t.nm.1, .string t.nm.2, x0, x1, x2, x3, x4, x5, x6, .slice A t.args.length c] := ⟨⟨by omega, _, _, B1⟩, hTA, B1.cell⟩
 have M := hI (memForE (.slice none 0 0) (.bool false) t w.heap.size 0 _ ((w.alloc (.cells #[.int .i64 t.kd, .string t.nm.1, .string t.nm.2, x0, x1, x2, x3, x4, x5, x6, .slice A t.args.length c] 35)).alloc (.cells #[.int .i64 0, .string ⟨#[]⟩, .string ⟨#[]⟩, .int .i64 0, .string ⟨#[]⟩, .string ⟨#[]⟩, .string ⟨#[]⟩, .string ⟨#[]⟩, .string ⟨#[]⟩, .slice none 0 0, .slice none 0 0] 35)) (hQ.p (hS.later hA.size)) hn)
 have HQ := hI hQ
 have HB1 := hI B1
 have HB2 := hI B2
 have HZ := hI hz
 have HA := hI hA
 have HE := hI (he.keep hA)
 have HS := hI hS
 have KE : Hid (∀ W, Below ((w.alloc (.cells #[.int .i64 t.kd, .string t.nm.1, .string t.nm.2, x0, x1, x2, x3, x4, x5, x6, .slice A t.args.length c] 35)).alloc (.cells #[.int .i64 0, .string ⟨#[]⟩, .string ⟨#[]⟩, .int .i64 0, .string ⟨#[]⟩, .string ⟨#[]⟩, .string ⟨#[]⟩, .string ⟨#[]⟩, .string ⟨#[]⟩, .slice none 0 0, .slice none 0 0] 35)).heap.size ((w.alloc (.cells #[.int .i64 t.kd, .string t.nm.1, .string t.nm.2, x0, x1, x2, x3, x4, x5, x6, .slice A t.args.length c] 35)).alloc (.cells #[.int .i64 0, .string ⟨#[]⟩, .string ⟨#[]⟩, .int .i64 0, .string ⟨#[]⟩, .string ⟨#[]⟩, .string ⟨#[]⟩, .string ⟨#[]⟩, .string ⟨#[]⟩, .slice none 0 0, .slice none 0 0] 35)) W → Calls Tryz.prog f (#[.pointer (some ⟨w.heap.size, 0, none⟩)] ++ caps) W (RetTB W S (ed t) (ch t))) := fun W hw => ke W w.heap.size 0 _ (chain2 hA hw (Nat.le_refl _)) (hQ.below (hS.later hA.size) hw)
 have HCF : Hid (∀ W : World, (callFunc f (#[.pointer (some ⟨w.heap.size, 0, none⟩)] ++ caps)).run Tryz.prog W = .ok (.enter f (#[.pointer (some ⟨w.heap.size, 0, none⟩)] ++ caps)) W) := fun W => hcf _ W
 unfold vTm
 generalize ch t = r at KE
 clear h hA B1 B2 hz hTA hQ hS he ke hcf hn
 go_enter Tryz.func78, Tryz.ntmps78
 go_wp2_with fail
 generalize ((w.alloc (.cells #[.int .i64 t.kd, .string t.nm.1, .string t.nm.2, x0, x1, x2, x3, x4, x5, x6, .slice A t.args.length c] 35)).alloc (.cells #[.int .i64 0, .string ⟨#[]⟩, .string ⟨#[]⟩, .int .i64 0, .string ⟨#[]⟩, .string ⟨#[]⟩, .string ⟨#[]⟩, .string ⟨#[]⟩, .string ⟨#[]⟩, .slice none 0 0, .slice none 0 0] 35)) = W at *
 refine M.out.mono ?_
 rintro e w1 ⟨rfl, hb1⟩
 have HE1 := hI (HE.out.keep hb1)
 have c1 := HE1.out.c1
 have f1 := HE1.out.f1
 have HBW := hI hb1
 have hsame : Below w1.heap.size w1 (w1.setCell ⟨ge, 1, none⟩ (.pointer none)) := below_same HE1.out rfl
 have HSM := hI hsame
 clear hb1 hsame M
 go_upto_region 2 with fail
 generalize w1.setCell ⟨ge, 1, none⟩ (.pointer none) = Z at *
 have HWZ := hI (chain2 HBW.out HSM.out (Nat.le_refl _))
 have HEZ := hI (HE1.out.keep HSM.out)
 have z0 := HEZ.out.c0
 have KZ := hI (KE.out Z HWZ.out)
 clear c1 f1 KE HE HE1 HBW HSM
 go_wp2_with ((with_reducible refine wpList_dyn ?_ 14 3 f caps (.pointer (some ⟨w.heap.size, 0, none⟩)) #[91] ?_ ?_ ?_ HCF.out ?_); rfl; rfl; rfl; rfl)
 with_reducible refine KZ.out.mono ?_
 rintro e w3 ⟨cs3, rfl, h3, hb3⟩
 refine ⟨_, rfl, ?_⟩
 have O3 := hI h3.o11
 have HB1Z := hI ((HB1.out.keep HWZ.out).keep hb3)
 have HB2Z := hI ((HB2.out.keep HWZ.out).keep hb3)
 have H3 := hI h3
 have HB3 := hI hb3
 clear KZ h3 hb3 z0
 have HT1 : Hid (TB (w3.setRow w.heap.size cs3.toArray) w.heap.size cs3) := HB1Z.out.set _
 have HT2 : Hid (TB (w3.setRow w.heap.size cs3.toArray) (w.heap.size + 1) zT) := HB2Z.out.other (by omega)
 have HWU : Hid (Below w.heap.size w (w3.setRow w.heap.size cs3.toArray)) := below_setRowO (HA.out.trans ((chain2 HWZ.out HB3.out (Nat.le_refl _)).mono HA.out.size)) (Nat.le_refl _) _
 have hz1 := HZ.out
 have hz2 := HWZ.out.size
 have HTU : Hid (TmAt (w3.setRow w.heap.size cs3.toArray) (fun b => Upto Z w3 S b) (ed t) cs3) := by
  refine TmAt.keep (fun _ h => h) (fun b hb => setRow_other w3 _ b _ ?_) _ _ H3.out
  rcases hb with h | ⟨h, _⟩
  · have := HS.out b h; omega
  · omega
 have hsU : (w3.setRow w.heap.size cs3.toArray).heap.size = w3.heap.size := size_setRow _ _ _
 have HSU := hI hsU
 have HOLD := HB1Z
 clear H3 HB1 HB2 HB1Z hz1 hz2 hsU HQ
 go_wp2_with (first | ((with_reducible refine storeTb (cs := cs3) (.tmp 3) (.tmp 16) ?_ ?_ ?_ ?_ HOLD.out ?_ ?_ ?_ ?_); rfl; rfl; rfl; rfl; rfl; exact O3.out.1; exact O3.out.2; generalize w3.setRow w.heap.size cs3.toArray = U at *) | ((with_reducible refine loadTb (cs := cs3) (.tmp 3) ?_ ?_ ?_ HT1.out ?_ ?_); rfl; rfl; rfl; exact O3.out.1) | ((with_reducible refine storeTb (cs := cs3) (.tmp 4) (.tmp 18) ?_ ?_ ?_ ?_ HT2.out ?_ ?_ ?_ ?_); rfl; rfl; rfl; rfl; rfl; exact O3.out.1; exact O3.out.2))
 refine retTb rfl rfl (HT2.out.set _) O3.out.1 ⟨_, rfl, ?_, below_setRowO HWU.out (by omega) _⟩
 have hz1 := HZ.out
 have hz2 := HWZ.out.size
 refine TmAt.keep (fun b hb => ?_) (fun b hb => setRow_other U _ b _ ?_) _ _ HTU.out
 · rcases hb with h | ⟨h, h'⟩
   · exact .inl h
   · exact .inr ⟨by omega, by rw [size_setRow, HSU.out]; exact h'⟩
 · rcases hb with h | ⟨h, _⟩
   · have := HS.out b h; omega
   · omega
theorem owpZ (b b' g : Nat) (w : World) (l0 : w.cell? ⟨b, 0, none⟩ = some (.int .i64 0)) (l1 : w.cell? ⟨b, 1, none⟩ = some (.string ⟨#[]⟩)) (l2 : w.cell? ⟨b, 2, none⟩ = some (.string ⟨#[]⟩)) (l3 : w.cell? ⟨b, 3, none⟩ = some (.string ⟨#[]⟩)) (l4 : w.cell? ⟨b, 4, none⟩ = some (.string ⟨#[]⟩)) (l5 : w.cell? ⟨b, 5, none⟩ = some (.string ⟨#[]⟩)) (l6 : w.cell? ⟨b, 6, none⟩ = some (.slice none 0 0)) (m0 : w.cell? ⟨b', 0, none⟩ = some (.int .i64 0)) (m1 : w.cell? ⟨b', 1, none⟩ = some (.string ⟨#[]⟩)) (m2 : w.cell? ⟨b', 2, none⟩ = some (.string ⟨#[]⟩)) (m3 : w.cell? ⟨b', 3, none⟩ = some (.string ⟨#[]⟩)) (m4 : w.cell? ⟨b', 4, none⟩ = some (.string ⟨#[]⟩)) (m5 : w.cell? ⟨b', 5, none⟩ = some (.string ⟨#[]⟩)) (m6 : w.cell? ⟨b', 6, none⟩ = some (.slice none 0 0)) (hc : w.cell? ⟨g, 0, none⟩ = some (.bool true)) :
 Calls Tryz.prog 143 #[.pointer (some ⟨g, 0, none⟩), .pointer (some ⟨b, 0, none⟩), .pointer (some ⟨b', 0, none⟩)] w (RetI w 0) := by
 have call := sameRaw b 0 b' 0 w 0 0 ⟨#[]⟩ ⟨#[]⟩ ⟨#[]⟩ ⟨#[]⟩ ⟨#[]⟩ ⟨#[]⟩ ⟨#[]⟩ ⟨#[]⟩ ⟨#[]⟩ ⟨#[]⟩ l0 l1 l2 l3 l4 l5 m0 m1 m2 m3 m4 m5
 rw [eqS_self] at call
 replace call : Hid (Calls Tryz.prog 165 #[.pointer (some ⟨b, 0, none⟩), .pointer (some ⟨b', 0, none⟩)] w (QuietV w (.bool true))) := call
 clear l0 l1 l2 l3 l4 l5 l6 m0 m1 m2 m3 m4 m5 m6
 go_enter Tryz.func143, Tryz.ntmps143
 go_wp2_with fail
 refine call.out.mono ?_
 intro e w' hq
 obtain ⟨rfl, hb⟩ := hq.below
 have HB := hI hb
 clear hb hq
 go_wp2
 go_ret
 exact ⟨rfl, HB.out⟩
theorem orderZ (b b' g : Nat) (w : World) (l0 : w.cell? ⟨b, 0, none⟩ = some (.int .i64 0)) (l1 : w.cell? ⟨b, 1, none⟩ = some (.string ⟨#[]⟩)) (l2 : w.cell? ⟨b, 2, none⟩ = some (.string ⟨#[]⟩)) (l3 : w.cell? ⟨b, 3, none⟩ = some (.string ⟨#[]⟩)) (l4 : w.cell? ⟨b, 4, none⟩ = some (.string ⟨#[]⟩)) (l5 : w.cell? ⟨b, 5, none⟩ = some (.string ⟨#[]⟩)) (l6 : w.cell? ⟨b, 6, none⟩ = some (.slice none 0 0)) (m0 : w.cell? ⟨b', 0, none⟩ = some (.int .i64 0)) (m1 : w.cell? ⟨b', 1, none⟩ = some (.string ⟨#[]⟩)) (m2 : w.cell? ⟨b', 2, none⟩ = some (.string ⟨#[]⟩)) (m3 : w.cell? ⟨b', 3, none⟩ = some (.string ⟨#[]⟩)) (m4 : w.cell? ⟨b', 4, none⟩ = some (.string ⟨#[]⟩)) (m5 : w.cell? ⟨b', 5, none⟩ = some (.string ⟨#[]⟩)) (m6 : w.cell? ⟨b', 6, none⟩ = some (.slice none 0 0)) (hc : w.cell? ⟨g, 0, none⟩ = some (.bool true)) :
 Calls Tryz.prog 117 #[.pointer (some ⟨g, 0, none⟩), .pointer (some ⟨b, 0, none⟩), .pointer (some ⟨b', 0, none⟩)] w (RetI w 0) := by
 have C1 := hI (owpZ b b' g w l0 l1 l2 l3 l4 l5 l6 m0 m1 m2 m3 m4 m5 m6 hc)
 have hlb : b < w.heap.size := World.block_lt_of_cell? w _ l0
 have hlb' : b' < w.heap.size := World.block_lt_of_cell? w _ m0
 have L6 : Hid (∀ wd, Below w.heap.size w wd → wd.cell? ⟨b, 6, none⟩ = some (.slice none 0 0) ∧ wd.cell? ⟨b', 6, none⟩ = some (.slice none 0 0)) := fun wd h => ⟨(h.cell (p := ⟨b, 6, none⟩) hlb).trans l6, (h.cell (p := ⟨b', 6, none⟩) hlb').trans m6⟩
 have hn2 : ordI (0 : Int) 0 = 0 := rfl
 clear l0 l1 l2 l3 l4 l5 l6 m0 m1 m2 m3 m4 m5 m6 hc hlb hlb'
 go_enter Tryz.func117, Tryz.ntmps117
 go_wp2_with fail
 refine wp_loop_once ?_
 go_wp2_with fail
 refine C1.out.mono ?_
 rintro e w1 ⟨rfl, hb1⟩
 have R1 := hI hb1
 obtain ⟨l6, m6⟩ := L6.out w1 R1.out
 clear hb1
 go_wp2_with fail
 go_quiet ((go_at_call 144; exact quiet_same (cmpAny _ _ _)))
 have R2 : Hid (Below w.heap.size w (w1.drewN nq)) := R1.out.trans ⟨rfl, rfl, rfl, Nat.le_refl _, fun _ _ => rfl⟩
 change (w1.drewN nq).cell? _ = _ at l6 m6
 generalize w1.drewN nq = w2 at l6 m6 R2 ⊢
 clear R1
 go_wp2_with fail
 go_still_tail 9, (by kernel_rfl)
 change wpList _ _ _ _ _ w2.drew
 have R3 := hI R2.out.drew
 clear l6 m6 R2
 generalize w2.drew = w3 at R3 ⊢
 go_wp2_with fail
 refine (settled0 g w3).mono ?_
 intro e w4 hq
 obtain ⟨rfl, hb⟩ := hq.below
 have R4 := hI (chain2 R3.out hb (Nat.le_refl _))
 clear hq hb R3
 go_wp2
 go_ret
 exact ⟨rfl, R4.out⟩
theorem equalPZ (w : World) : Calls Tryz.prog 91 #[.agg #[.int .i64 0, .string ⟨#[]⟩, .string ⟨#[]⟩, .string ⟨#[]⟩, .string ⟨#[]⟩, .string ⟨#[]⟩, .slice none 0 0], .agg #[.int .i64 0, .string ⟨#[]⟩, .string ⟨#[]⟩, .string ⟨#[]⟩, .string ⟨#[]⟩, .string ⟨#[]⟩, .slice none 0 0]] w (RetB w true) := by
 have hb : Below w.heap.size w (((w.alloc (.cells #[.int .i64 0, .string ⟨#[]⟩, .string ⟨#[]⟩, .string ⟨#[]⟩, .string ⟨#[]⟩, .string ⟨#[]⟩, .slice none 0 0] 33)).alloc (.cells #[.int .i64 0, .string ⟨#[]⟩, .string ⟨#[]⟩, .string ⟨#[]⟩, .string ⟨#[]⟩, .string ⟨#[]⟩, .slice none 0 0] 33)).alloc (.cells #[.bool true, .int .i64 0, .map none] 145)) := Below.alloc (Below.alloc (Below.alloc (Below.refl _ _) (Nat.le_refl _) _) (by simp) _) (by simp; omega) _
 have h0 : (((w.alloc (.cells #[.int .i64 0, .string ⟨#[]⟩, .string ⟨#[]⟩, .string ⟨#[]⟩, .string ⟨#[]⟩, .string ⟨#[]⟩, .slice none 0 0] 33)).alloc (.cells #[.int .i64 0, .string ⟨#[]⟩, .string ⟨#[]⟩, .string ⟨#[]⟩, .string ⟨#[]⟩, .string ⟨#[]⟩, .slice none 0 0] 33)).alloc (.cells #[.bool true, .int .i64 0, .map none] 145)).heap[w.heap.size]? = some (.cells #[.int .i64 0, .string ⟨#[]⟩, .string ⟨#[]⟩, .string ⟨#[]⟩, .string ⟨#[]⟩, .string ⟨#[]⟩, .slice none 0 0] 33 (0, 0)) := by
  rw [Below.heap_alloc _ _ _ (by simp; omega)]; exact heap_alloc2_old w _ _
 have h1 : (((w.alloc (.cells #[.int .i64 0, .string ⟨#[]⟩, .string ⟨#[]⟩, .string ⟨#[]⟩, .string ⟨#[]⟩, .string ⟨#[]⟩, .slice none 0 0] 33)).alloc (.cells #[.int .i64 0, .string ⟨#[]⟩, .string ⟨#[]⟩, .string ⟨#[]⟩, .string ⟨#[]⟩, .string ⟨#[]⟩, .slice none 0 0] 33)).alloc (.cells #[.bool true, .int .i64 0, .map none] 145)).heap[w.heap.size + 1]? = some (.cells #[.int .i64 0, .string ⟨#[]⟩, .string ⟨#[]⟩, .string ⟨#[]⟩, .string ⟨#[]⟩, .string ⟨#[]⟩, .slice none 0 0] 33 (0, 0)) := by
  rw [Below.heap_alloc _ _ _ (by simp)]; exact heap_alloc2_new w _ _
 have h2 : (((w.alloc (.cells #[.int .i64 0, .string ⟨#[]⟩, .string ⟨#[]⟩, .string ⟨#[]⟩, .string ⟨#[]⟩, .string ⟨#[]⟩, .slice none 0 0] 33)).alloc (.cells #[.int .i64 0, .string ⟨#[]⟩, .string ⟨#[]⟩, .string ⟨#[]⟩, .string ⟨#[]⟩, .string ⟨#[]⟩, .slice none 0 0] 33)).alloc (.cells #[.bool true, .int .i64 0, .map none] 145)).heap[w.heap.size + 1 + 1]? = some (.cells #[.bool true, .int .i64 0, .map none] 145 (0, 0)) := heap_new_at (by simp)
 obtain ⟨⟨a0, a1, a2, a3, a4, a5, a6⟩, _⟩ := row7 h0
 obtain ⟨⟨b0, b1, b2, b3, b4, b5, b6⟩, _⟩ := row7 h1
 have C := orderZ w.heap.size (w.heap.size + 1) (w.heap.size + 1 + 1) (((w.alloc (.cells #[.int .i64 0, .string ⟨#[]⟩, .string ⟨#[]⟩, .string ⟨#[]⟩, .string ⟨#[]⟩, .string ⟨#[]⟩, .slice none 0 0] 33)).alloc (.cells #[.int .i64 0, .string ⟨#[]⟩, .string ⟨#[]⟩, .string ⟨#[]⟩, .string ⟨#[]⟩, .string ⟨#[]⟩, .slice none 0 0] 33)).alloc (.cells #[.bool true, .int .i64 0, .map none] 145)) a0 a1 a2 a3 a4 a5 a6 b0 b1 b2 b3 b4 b5 b6 (by rw [cell_of_row _ _ _ _ _ _ h2]; rfl)
 replace C := hI C
 have HB := hI hb
 clear a0 a1 a2 a3 a4 a5 a6 b0 b1 b2 b3 b4 b5 b6 h0 h1 h2 hb
 go_enter Tryz.func91, Tryz.ntmps91
 go_wp2_with fail
 refine C.out.mono ?_
 rintro e w1 ⟨rfl, hb⟩
 have HC := hI (chain2 HB.out hb (Nat.le_refl _))
 clear hb HB
 go_wp2
 go_ret
 exact ⟨rfl, HC.out⟩
theorem equalRZ (w : World) : Calls Tryz.prog 53 #[.agg #[.int .i64 0, .string ⟨#[]⟩, .string ⟨#[]⟩, .string ⟨#[]⟩, .string ⟨#[]⟩, .string ⟨#[]⟩, .slice none 0 0], .agg #[.int .i64 0, .string ⟨#[]⟩, .string ⟨#[]⟩, .string ⟨#[]⟩, .string ⟨#[]⟩, .string ⟨#[]⟩, .slice none 0 0]] w (RetB w true) := by
 have h := eqFlat 0 ⟨#[]⟩ ⟨#[]⟩ ⟨#[]⟩ ⟨#[]⟩ ⟨#[]⟩ ⟨#[]⟩ ⟨#[]⟩ ⟨#[]⟩ ⟨#[]⟩ ⟨#[]⟩ w
 rw [eqS_self] at h
 exact h
theorem sameTRaw (b k b' k' : Nat) (w : World) (kd kd' : Int) (s1 s2 t1 t2 : ByteArray) (x0 x1 x2 x3 x4 x5 x6 y0 y1 y2 y3 y4 y5 y6 : Value) (A A' : Option Addr) (n n' c c' : Nat) (r : Bool) (l0 : w.cell? ⟨b, k, none⟩ = some (.int .i64 kd)) (l1 : w.cell? ⟨b, k + 1, none⟩ = some (.string s1)) (l2 : w.cell? ⟨b, k + 2, none⟩ = some (.string s2)) (l3 : w.cell? ⟨b, k + 3, none⟩ = some (x0)) (l4 : w.cell? ⟨b, k + 4, none⟩ = some (x1)) (l5 : w.cell? ⟨b, k + 5, none⟩ = some (x2)) (l6 : w.cell? ⟨b, k + 6, none⟩ = some (x3)) (l7 : w.cell? ⟨b, k + 7, none⟩ = some (x4)) (l8 : w.cell? ⟨b, k + 8, none⟩ = some (x5)) (l9 : w.cell? ⟨b, k + 9, none⟩ = some (x6)) (l10 : w.cell? ⟨b, k + 10, none⟩ = some (.slice A n c)) (m0 : w.cell? ⟨b', k', none⟩ = some (.int .i64 kd')) (m1 : w.cell? ⟨b', k' + 1, none⟩ = some (.string t1)) (m2 : w.cell? ⟨b', k' + 2, none⟩ = some (.string t2)) (m3 : w.cell? ⟨b', k' + 3, none⟩ = some (y0)) (m4 : w.cell? ⟨b', k' + 4, none⟩ = some (y1)) (m5 : w.cell? ⟨b', k' + 5, none⟩ = some (y2)) (m6 : w.cell? ⟨b', k' + 6, none⟩ = some (y3)) (m7 : w.cell? ⟨b', k' + 7, none⟩ = some (y4)) (m8 : w.cell? ⟨b', k' + 8, none⟩ = some (y5)) (m9 : w.cell? ⟨b', k' + 9, none⟩ = some (y6)) (m10 : w.cell? ⟨b', k' + 10, none⟩ = some (.slice A' n' c'))
 (hc : kd = kd' → ∀ W, Below w.heap.size w W → Calls Tryz.prog 91 #[.agg #[x0, x1, x2, x3, x4, x5, x6], .agg #[y0, y1, y2, y3, y4, y5, y6]] W (RetB W r)) :
 Calls Tryz.prog 136 #[.pointer (some ⟨b, k, none⟩), .pointer (some ⟨b', k', none⟩)] w (RetB w (kd == kd' && (s1.toList == t1.toList && s2.toList == t2.toList) && (n == n') && r)) := by
 cases h0 : (kd == kd') with
 | false =>
  have hr : Hid ((false && (s1.toList == t1.toList && s2.toList == t2.toList) && (n == n') && r) = false) := rfl
  rw [hr.out]
  clear hc
  go_enter Tryz.func136, Tryz.ntmps136
  go_wp2_with fail
  go_quiet (fail)
  go_wp2
  go_ret
  exact ⟨rfl, below_dn _ _⟩
 | true =>
  cases h1 : (s1.toList == t1.toList) with
  | false =>
   have hr : Hid ((true && (false && s2.toList == t2.toList) && (n == n') && r) = false) := by show _ = _; simp
   rw [hr.out]
   clear hc
   go_enter Tryz.func136, Tryz.ntmps136
   go_wp2_with fail
   go_quiet (fail)
   go_wp2
   go_ret
   exact ⟨rfl, below_dn _ _⟩
  | true =>
   cases h2 : (s2.toList == t2.toList) with
   | false =>
    have hr : Hid ((true && (true && false) && (n == n') && r) = false) := by show _ = _; simp
    rw [hr.out]
    clear hc
    go_enter Tryz.func136, Tryz.ntmps136
    go_wp2_with fail
    go_quiet (fail)
    go_wp2
    go_ret
    exact ⟨rfl, below_dn _ _⟩
   | true =>
    by_cases h3 : n = n'
    · subst h3
      have hr : Hid ((true && (true && true) && (n == n) && r) = r) := by show _ = _; simp
      rw [hr.out]
      clear hr
      have h3 : ((n : Int) == (n : Int)) = true := by simp
      have HC := hI (hc (eq_of_beq h0))
      have HLB : b < w.heap.size := World.block_lt_of_cell? w _ l0
      have HMB : b' < w.heap.size := World.block_lt_of_cell? w _ m0
      have L0 := hI l0
      have L1 := hI l1
      have L2 := hI l2
      have L3 := hI l3
      have L4 := hI l4
      have L5 := hI l5
      have L6 := hI l6
      have L7 := hI l7
      have L8 := hI l8
      have L9 := hI l9
      have L10 := hI l10
      have M0 := hI m0
      have M1 := hI m1
      have M2 := hI m2
      have M3 := hI m3
      have M4 := hI m4
      have M5 := hI m5
      have M6 := hI m6
      have M7 := hI m7
      have M8 := hI m8
      have M9 := hI m9
      have M10 := hI m10
      have HLB := hI HLB
      have HMB := hI HMB
      clear hc l0 l1 l2 l3 l4 l5 l6 l7 l8 l9 l10 m0 m1 m2 m3 m4 m5 m6 m7 m8 m9 m10
      go_enter Tryz.func136, Tryz.ntmps136
      go_wp2_with fail
      refine wp_region_grow (l := _) 44 (by kernel_rfl) (by kernel_rfl) (fun i => [5, 6, 7, 8, 9, 10, 11, 12, 13, 14, 15, 16, 17, 18, 19, 20, 21, 22, 23, 24, 25, 26, 27, 28, 29, 30, 31, 32, 33, 34, 35, 36, 37, 38, 39, 40, 41, 42, 43, 44, 45, 46, 47, 48].getD i 0) (LR [LV (.pointer (some ⟨b, k, none⟩)), LV (.pointer (some ⟨b, k, none⟩)), LV (.pointer (some ⟨b, k, none⟩)), LV (.int .i64 kd), LV (.pointer (some ⟨b', k', none⟩)), LV (.pointer (some ⟨b', k', none⟩)), LV (.pointer (some ⟨b', k', none⟩)), LV (.int .i64 kd'), LV (.bool true), LV (.bool true), LV (.pointer (some ⟨b, k, none⟩)), LV (.pointer (some ⟨b, k, none⟩)), LV (.pointer (some ⟨b, k + 1, none⟩)), LV (.agg #[.string s1, .string s2]), LV (.pointer (some ⟨b', k', none⟩)), LV (.pointer (some ⟨b', k', none⟩)), LV (.pointer (some ⟨b', k' + 1, none⟩)), LV (.agg #[.string t1, .string t2]), LV (.bool true), LV (.bool true), LV (.bool true), LV (.pointer (some ⟨b, k, none⟩)), LV (.pointer (some ⟨b, k, none⟩)), LV (.pointer (some ⟨b, k + 10, none⟩)), LV (.slice A n c), LV (.int .i64 (n : Int)), LV (.pointer (some ⟨b', k', none⟩)), LV (.pointer (some ⟨b', k', none⟩)), LV (.pointer (some ⟨b', k' + 10, none⟩)), LV (.slice A' n c'), LV (.int .i64 (n : Int)), LV (.bool true), LV (.bool true), LV (.bool true), LV (.pointer (some ⟨b, k, none⟩)), LV (.pointer (some ⟨b, k, none⟩)), LV (.pointer (some ⟨b, k + 3, none⟩)), LV (.agg #[x0, x1, x2, x3, x4, x5, x6]), LV (.pointer (some ⟨b', k', none⟩)), LV (.pointer (some ⟨b', k', none⟩)), LV (.pointer (some ⟨b', k' + 3, none⟩)), LV (.agg #[y0, y1, y2, y3, y4, y5, y6]), LV (.bool r), LV (.bool r)]) (LR_mono ⟨mLV _, mLV _, mLV _, mLV _, mLV _, mLV _, mLV _, mLV _, mLV _, mLV _, mLV _, mLV _, mLV _, mLV _, mLV _, mLV _, mLV _, mLV _, mLV _, mLV _, mLV _, mLV _, mLV _, mLV _, mLV _, mLV _, mLV _, mLV _, mLV _, mLV _, mLV _, mLV _, mLV _, mLV _, mLV _, mLV _, mLV _, mLV _, mLV _, mLV _, mLV _, mLV _, mLV _, mLV _, trivial⟩) (by
       intro i j hi hj h
       exact inj_getD [5, 6, 7, 8, 9, 10, 11, 12, 13, 14, 15, 16, 17, 18, 19, 20, 21, 22, 23, 24, 25, 26, 27, 28, 29, 30, 31, 32, 33, 34, 35, 36, 37, 38, 39, 40, 41, 42, 43, 44, 45, 46, 47, 48] (by decide) i j hi hj h) (by
       intro i hi
       exact lt_getD 49 [5, 6, 7, 8, 9, 10, 11, 12, 13, 14, 15, 16, 17, 18, 19, 20, 21, 22, 23, 24, 25, 26, 27, 28, 29, 30, 31, 32, 33, 34, 35, 36, 37, 38, 39, 40, 41, 42, 43, 44, 45, 46, 47, 48] (by decide) i hi) ?step ?done
      case step =>
       intro ii hii a w9 v lo hi' hoth hb hw
       have sl0 : a.tmps[0]? = some (.pointer (some ⟨b, k, none⟩)) := (hoth 0 (fun j hj => ne_getD 0 _ (by decide) j hj)).trans rfl
       have sl1 : a.tmps[1]? = some (.pointer (some ⟨b', k', none⟩)) := (hoth 1 (fun j hj => ne_getD 1 _ (by decide) j hj)).trans rfl
       match ii, hii with
       | 0, _ =>
        exact gw_move rfl (wanted_plain rfl) 0 _ rfl sl0 ⟨_, rfl, Below.refl _ _, rfl⟩
       | 1, _ =>
        obtain ⟨s0, r0, _⟩ := hw 0 (by omega) (by kernel_rfl)
        have e0 : v 0 = .pointer (some ⟨b, k, none⟩) := r0
        rw [e0] at s0
        replace s0 : a.tmps[5]? = some (.pointer (some ⟨b, k, none⟩)) := s0
        refine wpOp_step rfl fun K' hK' => ?_
        rw [if_pos (wanted_plain rfl)]
        unfold Oper.wp
        simp only [execOp]
        go_simp
        exact hK' _ _ ⟨_, rfl, Below.refl _ _, rfl⟩
       | 2, _ =>
        obtain ⟨s0, r0, _⟩ := hw 1 (by omega) (by kernel_rfl)
        have e0 : v 1 = .pointer (some ⟨b, k, none⟩) := r0
        rw [e0] at s0
        replace s0 : a.tmps[6]? = some (.pointer (some ⟨b, k, none⟩)) := s0
        refine wpOp_step rfl fun K' hK' => ?_
        rw [if_pos (wanted_plain rfl)]
        unfold Oper.wp
        simp only [execOp]
        go_simp
        exact hK' _ _ ⟨_, rfl, Below.refl _ _, rfl⟩
       | 3, _ =>
        obtain ⟨s0, r0, _⟩ := hw 2 (by omega) (by kernel_rfl)
        have e0 : v 2 = .pointer (some ⟨b, k, none⟩) := r0
        rw [e0] at s0
        replace s0 : a.tmps[7]? = some (.pointer (some ⟨b, k, none⟩)) := s0
        have cc0 := (hb.cell (p := ⟨b, k, none⟩) HLB.out).trans L0.out
        refine wpOp_step rfl fun K' hK' => ?_
        rw [if_pos (wanted_plain rfl)]
        unfold Oper.wp
        simp only [execOp]
        go_simp
        exact hK' _ _ ⟨_, rfl, Below.refl _ _, rfl⟩
       | 4, _ =>
        exact gw_move rfl (wanted_plain rfl) 1 _ rfl sl1 ⟨_, rfl, Below.refl _ _, rfl⟩
       | 5, _ =>
        obtain ⟨s0, r0, _⟩ := hw 4 (by omega) (by kernel_rfl)
        have e0 : v 4 = .pointer (some ⟨b', k', none⟩) := r0
        rw [e0] at s0
        replace s0 : a.tmps[9]? = some (.pointer (some ⟨b', k', none⟩)) := s0
        refine wpOp_step rfl fun K' hK' => ?_
        rw [if_pos (wanted_plain rfl)]
        unfold Oper.wp
        simp only [execOp]
        go_simp
        exact hK' _ _ ⟨_, rfl, Below.refl _ _, rfl⟩
       | 6, _ =>
        obtain ⟨s0, r0, _⟩ := hw 5 (by omega) (by kernel_rfl)
        have e0 : v 5 = .pointer (some ⟨b', k', none⟩) := r0
        rw [e0] at s0
        replace s0 : a.tmps[10]? = some (.pointer (some ⟨b', k', none⟩)) := s0
        refine wpOp_step rfl fun K' hK' => ?_
        rw [if_pos (wanted_plain rfl)]
        unfold Oper.wp
        simp only [execOp]
        go_simp
        exact hK' _ _ ⟨_, rfl, Below.refl _ _, rfl⟩
       | 7, _ =>
        obtain ⟨s0, r0, _⟩ := hw 6 (by omega) (by kernel_rfl)
        have e0 : v 6 = .pointer (some ⟨b', k', none⟩) := r0
        rw [e0] at s0
        replace s0 : a.tmps[11]? = some (.pointer (some ⟨b', k', none⟩)) := s0
        have cc0 := (hb.cell (p := ⟨b', k', none⟩) HMB.out).trans M0.out
        refine wpOp_step rfl fun K' hK' => ?_
        rw [if_pos (wanted_plain rfl)]
        unfold Oper.wp
        simp only [execOp]
        go_simp
        exact hK' _ _ ⟨_, rfl, Below.refl _ _, rfl⟩
       | 8, _ =>
        obtain ⟨s0, r0, _⟩ := hw 3 (by omega) (by kernel_rfl)
        have e0 : v 3 = .int .i64 kd := r0
        rw [e0] at s0
        replace s0 : a.tmps[8]? = some (.int .i64 kd) := s0
        obtain ⟨s1, r1, _⟩ := hw 7 (by omega) (by kernel_rfl)
        have e1 : v 7 = .int .i64 kd' := r1
        rw [e1] at s1
        replace s1 : a.tmps[12]? = some (.int .i64 kd') := s1
        refine wpOp_step rfl fun K' hK' => ?_
        rw [if_pos (wanted_plain rfl)]
        unfold Oper.wp
        simp only [execOp]
        go_simp
        exact hK' _ _ ⟨_, rfl, Below.refl _ _, rfl⟩
       | 9, _ =>
        obtain ⟨s0, r0, _⟩ := hw 8 (by omega) (by kernel_rfl)
        have e0 : v 8 = .bool true := r0
        rw [e0] at s0
        replace s0 : a.tmps[13]? = some (.bool true) := s0
        refine wpOp_step rfl fun K' hK' => ?_
        rw [if_pos (wanted_plain rfl)]
        unfold Oper.wp
        simp only [execOp]
        go_simp
        exact hK' _ _ ⟨_, rfl, Below.refl _ _, rfl⟩
       | 10, _ =>
        obtain ⟨s9, r9, _⟩ := hw 9 (by omega) (by kernel_rfl)
        have e9 : v 9 = .bool true := r9
        rw [e9] at s9
        replace s9 : a.tmps[14]? = some (.bool true) := s9
        exact gw_move rfl (wanted_on rfl rfl rfl s9 rfl) 0 _ rfl sl0 ⟨_, rfl, Below.refl _ _, rfl⟩
       | 11, _ =>
        obtain ⟨s0, r0, _⟩ := hw 10 (by omega) (by kernel_rfl)
        have e0 : v 10 = .pointer (some ⟨b, k, none⟩) := r0
        rw [e0] at s0
        replace s0 : a.tmps[15]? = some (.pointer (some ⟨b, k, none⟩)) := s0
        obtain ⟨s9, r9, _⟩ := hw 9 (by omega) (by kernel_rfl)
        have e9 : v 9 = .bool true := r9
        rw [e9] at s9
        replace s9 : a.tmps[14]? = some (.bool true) := s9
        refine wpOp_step rfl fun K' hK' => ?_
        rw [if_pos (wanted_on rfl rfl rfl s9 rfl)]
        unfold Oper.wp
        simp only [execOp]
        go_simp
        exact hK' _ _ ⟨_, rfl, Below.refl _ _, rfl⟩
       | 12, _ =>
        obtain ⟨s0, r0, _⟩ := hw 11 (by omega) (by kernel_rfl)
        have e0 : v 11 = .pointer (some ⟨b, k, none⟩) := r0
        rw [e0] at s0
        replace s0 : a.tmps[16]? = some (.pointer (some ⟨b, k, none⟩)) := s0
        obtain ⟨s9, r9, _⟩ := hw 9 (by omega) (by kernel_rfl)
        have e9 : v 9 = .bool true := r9
        rw [e9] at s9
        replace s9 : a.tmps[14]? = some (.bool true) := s9
        refine wpOp_step rfl fun K' hK' => ?_
        rw [if_pos (wanted_on rfl rfl rfl s9 rfl)]
        unfold Oper.wp
        simp only [execOp]
        go_simp
        exact hK' _ _ ⟨_, rfl, Below.refl _ _, rfl⟩
       | 13, _ =>
        obtain ⟨s0, r0, _⟩ := hw 12 (by omega) (by kernel_rfl)
        have e0 : v 12 = .pointer (some ⟨b, k + 1, none⟩) := r0
        rw [e0] at s0
        replace s0 : a.tmps[17]? = some (.pointer (some ⟨b, k + 1, none⟩)) := s0
        obtain ⟨s9, r9, _⟩ := hw 9 (by omega) (by kernel_rfl)
        have e9 : v 9 = .bool true := r9
        rw [e9] at s9
        replace s9 : a.tmps[14]? = some (.bool true) := s9
        have cc1 := (hb.cell (p := ⟨b, k + 1, none⟩) HLB.out).trans L1.out
        have cc2 := (hb.cell (p := ⟨b, k + 2, none⟩) HLB.out).trans L2.out
        refine wpOp_step rfl fun K' hK' => ?_
        rw [if_pos (wanted_on rfl rfl rfl s9 rfl)]
        unfold Oper.wp
        simp only [execOp]
        go_simp
        exact hK' _ _ ⟨_, rfl, Below.refl _ _, rfl⟩
       | 14, _ =>
        obtain ⟨s9, r9, _⟩ := hw 9 (by omega) (by kernel_rfl)
        have e9 : v 9 = .bool true := r9
        rw [e9] at s9
        replace s9 : a.tmps[14]? = some (.bool true) := s9
        exact gw_move rfl (wanted_on rfl rfl rfl s9 rfl) 1 _ rfl sl1 ⟨_, rfl, Below.refl _ _, rfl⟩
       | 15, _ =>
        obtain ⟨s0, r0, _⟩ := hw 14 (by omega) (by kernel_rfl)
        have e0 : v 14 = .pointer (some ⟨b', k', none⟩) := r0
        rw [e0] at s0
        replace s0 : a.tmps[19]? = some (.pointer (some ⟨b', k', none⟩)) := s0
        obtain ⟨s9, r9, _⟩ := hw 9 (by omega) (by kernel_rfl)
        have e9 : v 9 = .bool true := r9
        rw [e9] at s9
        replace s9 : a.tmps[14]? = some (.bool true) := s9
        refine wpOp_step rfl fun K' hK' => ?_
        rw [if_pos (wanted_on rfl rfl rfl s9 rfl)]
        unfold Oper.wp
        simp only [execOp]
        go_simp
        exact hK' _ _ ⟨_, rfl, Below.refl _ _, rfl⟩
       | 16, _ =>
        obtain ⟨s0, r0, _⟩ := hw 15 (by omega) (by kernel_rfl)
        have e0 : v 15 = .pointer (some ⟨b', k', none⟩) := r0
        rw [e0] at s0
        replace s0 : a.tmps[20]? = some (.pointer (some ⟨b', k', none⟩)) := s0
        obtain ⟨s9, r9, _⟩ := hw 9 (by omega) (by kernel_rfl)
        have e9 : v 9 = .bool true := r9
        rw [e9] at s9
        replace s9 : a.tmps[14]? = some (.bool true) := s9
        refine wpOp_step rfl fun K' hK' => ?_
        rw [if_pos (wanted_on rfl rfl rfl s9 rfl)]
        unfold Oper.wp
        simp only [execOp]
        go_simp
        exact hK' _ _ ⟨_, rfl, Below.refl _ _, rfl⟩
       | 17, _ =>
        obtain ⟨s0, r0, _⟩ := hw 16 (by omega) (by kernel_rfl)
        have e0 : v 16 = .pointer (some ⟨b', k' + 1, none⟩) := r0
        rw [e0] at s0
        replace s0 : a.tmps[21]? = some (.pointer (some ⟨b', k' + 1, none⟩)) := s0
        obtain ⟨s9, r9, _⟩ := hw 9 (by omega) (by kernel_rfl)
        have e9 : v 9 = .bool true := r9
        rw [e9] at s9
        replace s9 : a.tmps[14]? = some (.bool true) := s9
        have cc1 := (hb.cell (p := ⟨b', k' + 1, none⟩) HMB.out).trans M1.out
        have cc2 := (hb.cell (p := ⟨b', k' + 2, none⟩) HMB.out).trans M2.out
        refine wpOp_step rfl fun K' hK' => ?_
        rw [if_pos (wanted_on rfl rfl rfl s9 rfl)]
        unfold Oper.wp
        simp only [execOp]
        go_simp
        exact hK' _ _ ⟨_, rfl, Below.refl _ _, rfl⟩
       | 18, _ =>
        obtain ⟨s0, r0, _⟩ := hw 13 (by omega) (by kernel_rfl)
        have e0 : v 13 = .agg #[.string s1, .string s2] := r0
        rw [e0] at s0
        replace s0 : a.tmps[18]? = some (.agg #[.string s1, .string s2]) := s0
        obtain ⟨s1, r1, _⟩ := hw 17 (by omega) (by kernel_rfl)
        have e1 : v 17 = .agg #[.string t1, .string t2] := r1
        rw [e1] at s1
        replace s1 : a.tmps[22]? = some (.agg #[.string t1, .string t2]) := s1
        obtain ⟨s9, r9, _⟩ := hw 9 (by omega) (by kernel_rfl)
        have e9 : v 9 = .bool true := r9
        rw [e9] at s9
        replace s9 : a.tmps[14]? = some (.bool true) := s9
        refine wpOp_step rfl fun K' hK' => ?_
        rw [if_pos (wanted_on rfl rfl rfl s9 rfl)]
        unfold Oper.wp
        simp only [execOp]
        go_simp
        exact hK' _ _ ⟨_, rfl, Below.refl _ _, rfl⟩
       | 19, _ =>
        obtain ⟨s0, r0, _⟩ := hw 9 (by omega) (by kernel_rfl)
        have e0 : v 9 = .bool true := r0
        rw [e0] at s0
        replace s0 : a.tmps[14]? = some (.bool true) := s0
        obtain ⟨s1, r1, _⟩ := hw 18 (by omega) (by kernel_rfl)
        have e1 : v 18 = .bool true := r1
        rw [e1] at s1
        replace s1 : a.tmps[23]? = some (.bool true) := s1
        refine wpOp_step rfl fun K' hK' => ?_
        rw [if_pos (wanted_plain rfl)]
        unfold Oper.wp
        simp only [execOp]
        go_simp
        exact hK' _ _ ⟨_, rfl, Below.refl _ _, rfl⟩
       | 20, _ =>
        obtain ⟨s0, r0, _⟩ := hw 19 (by omega) (by kernel_rfl)
        have e0 : v 19 = .bool true := r0
        rw [e0] at s0
        replace s0 : a.tmps[24]? = some (.bool true) := s0
        refine wpOp_step rfl fun K' hK' => ?_
        rw [if_pos (wanted_plain rfl)]
        unfold Oper.wp
        simp only [execOp]
        go_simp
        exact hK' _ _ ⟨_, rfl, Below.refl _ _, rfl⟩
       | 21, _ =>
        obtain ⟨s9, r9, _⟩ := hw 20 (by omega) (by kernel_rfl)
        have e9 : v 20 = .bool true := r9
        rw [e9] at s9
        replace s9 : a.tmps[25]? = some (.bool true) := s9
        exact gw_move rfl (wanted_on rfl rfl rfl s9 rfl) 0 _ rfl sl0 ⟨_, rfl, Below.refl _ _, rfl⟩
       | 22, _ =>
        obtain ⟨s0, r0, _⟩ := hw 21 (by omega) (by kernel_rfl)
        have e0 : v 21 = .pointer (some ⟨b, k, none⟩) := r0
        rw [e0] at s0
        replace s0 : a.tmps[26]? = some (.pointer (some ⟨b, k, none⟩)) := s0
        obtain ⟨s9, r9, _⟩ := hw 20 (by omega) (by kernel_rfl)
        have e9 : v 20 = .bool true := r9
        rw [e9] at s9
        replace s9 : a.tmps[25]? = some (.bool true) := s9
        refine wpOp_step rfl fun K' hK' => ?_
        rw [if_pos (wanted_on rfl rfl rfl s9 rfl)]
        unfold Oper.wp
        simp only [execOp]
        go_simp
        exact hK' _ _ ⟨_, rfl, Below.refl _ _, rfl⟩
       | 23, _ =>
        obtain ⟨s0, r0, _⟩ := hw 22 (by omega) (by kernel_rfl)
        have e0 : v 22 = .pointer (some ⟨b, k, none⟩) := r0
        rw [e0] at s0
        replace s0 : a.tmps[27]? = some (.pointer (some ⟨b, k, none⟩)) := s0
        obtain ⟨s9, r9, _⟩ := hw 20 (by omega) (by kernel_rfl)
        have e9 : v 20 = .bool true := r9
        rw [e9] at s9
        replace s9 : a.tmps[25]? = some (.bool true) := s9
        refine wpOp_step rfl fun K' hK' => ?_
        rw [if_pos (wanted_on rfl rfl rfl s9 rfl)]
        unfold Oper.wp
        simp only [execOp]
        go_simp
        exact hK' _ _ ⟨_, rfl, Below.refl _ _, rfl⟩
       | 24, _ =>
        obtain ⟨s0, r0, _⟩ := hw 23 (by omega) (by kernel_rfl)
        have e0 : v 23 = .pointer (some ⟨b, k + 10, none⟩) := r0
        rw [e0] at s0
        replace s0 : a.tmps[28]? = some (.pointer (some ⟨b, k + 10, none⟩)) := s0
        obtain ⟨s9, r9, _⟩ := hw 20 (by omega) (by kernel_rfl)
        have e9 : v 20 = .bool true := r9
        rw [e9] at s9
        replace s9 : a.tmps[25]? = some (.bool true) := s9
        have cc10 := (hb.cell (p := ⟨b, k + 10, none⟩) HLB.out).trans L10.out
        refine wpOp_step rfl fun K' hK' => ?_
        rw [if_pos (wanted_on rfl rfl rfl s9 rfl)]
        unfold Oper.wp
        simp only [execOp]
        go_simp
        exact hK' _ _ ⟨_, rfl, Below.refl _ _, rfl⟩
       | 25, _ =>
        obtain ⟨s0, r0, _⟩ := hw 24 (by omega) (by kernel_rfl)
        have e0 : v 24 = .slice A n c := r0
        rw [e0] at s0
        replace s0 : a.tmps[29]? = some (.slice A n c) := s0
        obtain ⟨s9, r9, _⟩ := hw 20 (by omega) (by kernel_rfl)
        have e9 : v 20 = .bool true := r9
        rw [e9] at s9
        replace s9 : a.tmps[25]? = some (.bool true) := s9
        refine wpOp_step rfl fun K' hK' => ?_
        rw [if_pos (wanted_on rfl rfl rfl s9 rfl)]
        unfold Oper.wp
        simp only [execOp]
        go_simp
        exact hK' _ _ ⟨_, rfl, Below.refl _ _, rfl⟩
       | 26, _ =>
        obtain ⟨s9, r9, _⟩ := hw 20 (by omega) (by kernel_rfl)
        have e9 : v 20 = .bool true := r9
        rw [e9] at s9
        replace s9 : a.tmps[25]? = some (.bool true) := s9
        exact gw_move rfl (wanted_on rfl rfl rfl s9 rfl) 1 _ rfl sl1 ⟨_, rfl, Below.refl _ _, rfl⟩
       | 27, _ =>
        obtain ⟨s0, r0, _⟩ := hw 26 (by omega) (by kernel_rfl)
        have e0 : v 26 = .pointer (some ⟨b', k', none⟩) := r0
        rw [e0] at s0
        replace s0 : a.tmps[31]? = some (.pointer (some ⟨b', k', none⟩)) := s0
        obtain ⟨s9, r9, _⟩ := hw 20 (by omega) (by kernel_rfl)
        have e9 : v 20 = .bool true := r9
        rw [e9] at s9
        replace s9 : a.tmps[25]? = some (.bool true) := s9
        refine wpOp_step rfl fun K' hK' => ?_
        rw [if_pos (wanted_on rfl rfl rfl s9 rfl)]
        unfold Oper.wp
        simp only [execOp]
        go_simp
        exact hK' _ _ ⟨_, rfl, Below.refl _ _, rfl⟩
       | 28, _ =>
        obtain ⟨s0, r0, _⟩ := hw 27 (by omega) (by kernel_rfl)
        have e0 : v 27 = .pointer (some ⟨b', k', none⟩) := r0
        rw [e0] at s0
        replace s0 : a.tmps[32]? = some (.pointer (some ⟨b', k', none⟩)) := s0
        obtain ⟨s9, r9, _⟩ := hw 20 (by omega) (by kernel_rfl)
        have e9 : v 20 = .bool true := r9
        rw [e9] at s9
        replace s9 : a.tmps[25]? = some (.bool true) := s9
        refine wpOp_step rfl fun K' hK' => ?_
        rw [if_pos (wanted_on rfl rfl rfl s9 rfl)]
        unfold Oper.wp
        simp only [execOp]
        go_simp
        exact hK' _ _ ⟨_, rfl, Below.refl _ _, rfl⟩
       | 29, _ =>
        obtain ⟨s0, r0, _⟩ := hw 28 (by omega) (by kernel_rfl)
        have e0 : v 28 = .pointer (some ⟨b', k' + 10, none⟩) := r0
        rw [e0] at s0
        replace s0 : a.tmps[33]? = some (.pointer (some ⟨b', k' + 10, none⟩)) := s0
        obtain ⟨s9, r9, _⟩ := hw 20 (by omega) (by kernel_rfl)
        have e9 : v 20 = .bool true := r9
        rw [e9] at s9
        replace s9 : a.tmps[25]? = some (.bool true) := s9
        have cc10 := (hb.cell (p := ⟨b', k' + 10, none⟩) HMB.out).trans M10.out
        refine wpOp_step rfl fun K' hK' => ?_
        rw [if_pos (wanted_on rfl rfl rfl s9 rfl)]
        unfold Oper.wp
        simp only [execOp]
        go_simp
        exact hK' _ _ ⟨_, rfl, Below.refl _ _, rfl⟩
       | 30, _ =>
        obtain ⟨s0, r0, _⟩ := hw 29 (by omega) (by kernel_rfl)
        have e0 : v 29 = .slice A' n c' := r0
        rw [e0] at s0
        replace s0 : a.tmps[34]? = some (.slice A' n c') := s0
        obtain ⟨s9, r9, _⟩ := hw 20 (by omega) (by kernel_rfl)
        have e9 : v 20 = .bool true := r9
        rw [e9] at s9
        replace s9 : a.tmps[25]? = some (.bool true) := s9
        refine wpOp_step rfl fun K' hK' => ?_
        rw [if_pos (wanted_on rfl rfl rfl s9 rfl)]
        unfold Oper.wp
        simp only [execOp]
        go_simp
        exact hK' _ _ ⟨_, rfl, Below.refl _ _, rfl⟩
       | 31, _ =>
        obtain ⟨s0, r0, _⟩ := hw 25 (by omega) (by kernel_rfl)
        have e0 : v 25 = .int .i64 (n : Int) := r0
        rw [e0] at s0
        replace s0 : a.tmps[30]? = some (.int .i64 (n : Int)) := s0
        obtain ⟨s1, r1, _⟩ := hw 30 (by omega) (by kernel_rfl)
        have e1 : v 30 = .int .i64 (n : Int) := r1
        rw [e1] at s1
        replace s1 : a.tmps[35]? = some (.int .i64 (n : Int)) := s1
        obtain ⟨s9, r9, _⟩ := hw 20 (by omega) (by kernel_rfl)
        have e9 : v 20 = .bool true := r9
        rw [e9] at s9
        replace s9 : a.tmps[25]? = some (.bool true) := s9
        refine wpOp_step rfl fun K' hK' => ?_
        rw [if_pos (wanted_on rfl rfl rfl s9 rfl)]
        unfold Oper.wp
        simp only [execOp]
        go_simp
        exact hK' _ _ ⟨_, rfl, Below.refl _ _, rfl⟩
       | 32, _ =>
        obtain ⟨s0, r0, _⟩ := hw 20 (by omega) (by kernel_rfl)
        have e0 : v 20 = .bool true := r0
        rw [e0] at s0
        replace s0 : a.tmps[25]? = some (.bool true) := s0
        obtain ⟨s1, r1, _⟩ := hw 31 (by omega) (by kernel_rfl)
        have e1 : v 31 = .bool true := r1
        rw [e1] at s1
        replace s1 : a.tmps[36]? = some (.bool true) := s1
        refine wpOp_step rfl fun K' hK' => ?_
        rw [if_pos (wanted_plain rfl)]
        unfold Oper.wp
        simp only [execOp]
        go_simp
        exact hK' _ _ ⟨_, rfl, Below.refl _ _, rfl⟩
       | 33, _ =>
        obtain ⟨s0, r0, _⟩ := hw 32 (by omega) (by kernel_rfl)
        have e0 : v 32 = .bool true := r0
        rw [e0] at s0
        replace s0 : a.tmps[37]? = some (.bool true) := s0
        refine wpOp_step rfl fun K' hK' => ?_
        rw [if_pos (wanted_plain rfl)]
        unfold Oper.wp
        simp only [execOp]
        go_simp
        exact hK' _ _ ⟨_, rfl, Below.refl _ _, rfl⟩
       | 34, _ =>
        obtain ⟨s9, r9, _⟩ := hw 33 (by omega) (by kernel_rfl)
        have e9 : v 33 = .bool true := r9
        rw [e9] at s9
        replace s9 : a.tmps[38]? = some (.bool true) := s9
        exact gw_move rfl (wanted_on rfl rfl rfl s9 rfl) 0 _ rfl sl0 ⟨_, rfl, Below.refl _ _, rfl⟩
       | 35, _ =>
        obtain ⟨s0, r0, _⟩ := hw 34 (by omega) (by kernel_rfl)
        have e0 : v 34 = .pointer (some ⟨b, k, none⟩) := r0
        rw [e0] at s0
        replace s0 : a.tmps[39]? = some (.pointer (some ⟨b, k, none⟩)) := s0
        obtain ⟨s9, r9, _⟩ := hw 33 (by omega) (by kernel_rfl)
        have e9 : v 33 = .bool true := r9
        rw [e9] at s9
        replace s9 : a.tmps[38]? = some (.bool true) := s9
        refine wpOp_step rfl fun K' hK' => ?_
        rw [if_pos (wanted_on rfl rfl rfl s9 rfl)]
        unfold Oper.wp
        simp only [execOp]
        go_simp
        exact hK' _ _ ⟨_, rfl, Below.refl _ _, rfl⟩
       | 36, _ =>
        obtain ⟨s0, r0, _⟩ := hw 35 (by omega) (by kernel_rfl)
        have e0 : v 35 = .pointer (some ⟨b, k, none⟩) := r0
        rw [e0] at s0
        replace s0 : a.tmps[40]? = some (.pointer (some ⟨b, k, none⟩)) := s0
        obtain ⟨s9, r9, _⟩ := hw 33 (by omega) (by kernel_rfl)
        have e9 : v 33 = .bool true := r9
        rw [e9] at s9
        replace s9 : a.tmps[38]? = some (.bool true) := s9
        refine wpOp_step rfl fun K' hK' => ?_
        rw [if_pos (wanted_on rfl rfl rfl s9 rfl)]
        unfold Oper.wp
        simp only [execOp]
        go_simp
        exact hK' _ _ ⟨_, rfl, Below.refl _ _, rfl⟩
       | 37, _ =>
        obtain ⟨s0, r0, _⟩ := hw 36 (by omega) (by kernel_rfl)
        have e0 : v 36 = .pointer (some ⟨b, k + 3, none⟩) := r0
        rw [e0] at s0
        replace s0 : a.tmps[41]? = some (.pointer (some ⟨b, k + 3, none⟩)) := s0
        obtain ⟨s9, r9, _⟩ := hw 33 (by omega) (by kernel_rfl)
        have e9 : v 33 = .bool true := r9
        rw [e9] at s9
        replace s9 : a.tmps[38]? = some (.bool true) := s9
        have cc3 := (hb.cell (p := ⟨b, k + 3, none⟩) HLB.out).trans L3.out
        have cc4 := (hb.cell (p := ⟨b, k + 4, none⟩) HLB.out).trans L4.out
        have cc5 := (hb.cell (p := ⟨b, k + 5, none⟩) HLB.out).trans L5.out
        have cc6 := (hb.cell (p := ⟨b, k + 6, none⟩) HLB.out).trans L6.out
        have cc7 := (hb.cell (p := ⟨b, k + 7, none⟩) HLB.out).trans L7.out
        have cc8 := (hb.cell (p := ⟨b, k + 8, none⟩) HLB.out).trans L8.out
        have cc9 := (hb.cell (p := ⟨b, k + 9, none⟩) HLB.out).trans L9.out
        refine wpOp_step rfl fun K' hK' => ?_
        rw [if_pos (wanted_on rfl rfl rfl s9 rfl)]
        unfold Oper.wp
        simp only [execOp]
        go_simp
        exact hK' _ _ ⟨_, rfl, Below.refl _ _, rfl⟩
       | 38, _ =>
        obtain ⟨s9, r9, _⟩ := hw 33 (by omega) (by kernel_rfl)
        have e9 : v 33 = .bool true := r9
        rw [e9] at s9
        replace s9 : a.tmps[38]? = some (.bool true) := s9
        exact gw_move rfl (wanted_on rfl rfl rfl s9 rfl) 1 _ rfl sl1 ⟨_, rfl, Below.refl _ _, rfl⟩
       | 39, _ =>
        obtain ⟨s0, r0, _⟩ := hw 38 (by omega) (by kernel_rfl)
        have e0 : v 38 = .pointer (some ⟨b', k', none⟩) := r0
        rw [e0] at s0
        replace s0 : a.tmps[43]? = some (.pointer (some ⟨b', k', none⟩)) := s0
        obtain ⟨s9, r9, _⟩ := hw 33 (by omega) (by kernel_rfl)
        have e9 : v 33 = .bool true := r9
        rw [e9] at s9
        replace s9 : a.tmps[38]? = some (.bool true) := s9
        refine wpOp_step rfl fun K' hK' => ?_
        rw [if_pos (wanted_on rfl rfl rfl s9 rfl)]
        unfold Oper.wp
        simp only [execOp]
        go_simp
        exact hK' _ _ ⟨_, rfl, Below.refl _ _, rfl⟩
       | 40, _ =>
        obtain ⟨s0, r0, _⟩ := hw 39 (by omega) (by kernel_rfl)
        have e0 : v 39 = .pointer (some ⟨b', k', none⟩) := r0
        rw [e0] at s0
        replace s0 : a.tmps[44]? = some (.pointer (some ⟨b', k', none⟩)) := s0
        obtain ⟨s9, r9, _⟩ := hw 33 (by omega) (by kernel_rfl)
        have e9 : v 33 = .bool true := r9
        rw [e9] at s9
        replace s9 : a.tmps[38]? = some (.bool true) := s9
        refine wpOp_step rfl fun K' hK' => ?_
        rw [if_pos (wanted_on rfl rfl rfl s9 rfl)]
        unfold Oper.wp
        simp only [execOp]
        go_simp
        exact hK' _ _ ⟨_, rfl, Below.refl _ _, rfl⟩
       | 41, _ =>
        obtain ⟨s0, r0, _⟩ := hw 40 (by omega) (by kernel_rfl)
        have e0 : v 40 = .pointer (some ⟨b', k' + 3, none⟩) := r0
        rw [e0] at s0
        replace s0 : a.tmps[45]? = some (.pointer (some ⟨b', k' + 3, none⟩)) := s0
        obtain ⟨s9, r9, _⟩ := hw 33 (by omega) (by kernel_rfl)
        have e9 : v 33 = .bool true := r9
        rw [e9] at s9
        replace s9 : a.tmps[38]? = some (.bool true) := s9
        have cc3 := (hb.cell (p := ⟨b', k' + 3, none⟩) HMB.out).trans M3.out
        have cc4 := (hb.cell (p := ⟨b', k' + 4, none⟩) HMB.out).trans M4.out
        have cc5 := (hb.cell (p := ⟨b', k' + 5, none⟩) HMB.out).trans M5.out
        have cc6 := (hb.cell (p := ⟨b', k' + 6, none⟩) HMB.out).trans M6.out
        have cc7 := (hb.cell (p := ⟨b', k' + 7, none⟩) HMB.out).trans M7.out
        have cc8 := (hb.cell (p := ⟨b', k' + 8, none⟩) HMB.out).trans M8.out
        have cc9 := (hb.cell (p := ⟨b', k' + 9, none⟩) HMB.out).trans M9.out
        refine wpOp_step rfl fun K' hK' => ?_
        rw [if_pos (wanted_on rfl rfl rfl s9 rfl)]
        unfold Oper.wp
        simp only [execOp]
        go_simp
        exact hK' _ _ ⟨_, rfl, Below.refl _ _, rfl⟩
       | 42, _ =>
        obtain ⟨s0, r0, _⟩ := hw 37 (by omega) (by kernel_rfl)
        have e0 : v 37 = .agg #[x0, x1, x2, x3, x4, x5, x6] := r0
        rw [e0] at s0
        replace s0 : a.tmps[42]? = some (.agg #[x0, x1, x2, x3, x4, x5, x6]) := s0
        obtain ⟨s1, r1, _⟩ := hw 41 (by omega) (by kernel_rfl)
        have e1 : v 41 = .agg #[y0, y1, y2, y3, y4, y5, y6] := r1
        rw [e1] at s1
        replace s1 : a.tmps[46]? = some (.agg #[y0, y1, y2, y3, y4, y5, y6]) := s1
        obtain ⟨s9, r9, _⟩ := hw 33 (by omega) (by kernel_rfl)
        have e9 : v 33 = .bool true := r9
        rw [e9] at s9
        replace s9 : a.tmps[38]? = some (.bool true) := s9
        refine gw_tt rfl (wanted_on rfl rfl rfl s9 rfl) 91 42 46 _ _ _ rfl (fun v u w => by go_simp) s0 s1 ?_
        with_reducible refine (HC.out w9 hb).mono ?_
        rintro e w3 ⟨rfl, hb3⟩
        exact ⟨_, rfl, _, rfl, hb3, rfl⟩
       | 43, _ =>
        obtain ⟨s0, r0, _⟩ := hw 33 (by omega) (by kernel_rfl)
        have e0 : v 33 = .bool true := r0
        rw [e0] at s0
        replace s0 : a.tmps[38]? = some (.bool true) := s0
        obtain ⟨s1, r1, _⟩ := hw 42 (by omega) (by kernel_rfl)
        have e1 : v 42 = .bool r := r1
        rw [e1] at s1
        replace s1 : a.tmps[47]? = some (.bool r) := s1
        refine wpOp_step rfl fun K' hK' => ?_
        rw [if_pos (wanted_plain rfl)]
        unfold Oper.wp
        simp only [execOp]
        go_simp
        exact hK' _ _ ⟨_, rfl, Below.refl _ _, rfl⟩
       | k + 44, h => exact absurd h (by omega)
      case done =>
       intro a w9 v lo hi' hdef hsz hoth hb hj hap
       obtain ⟨_, hv43, _, _⟩ := hj 43 (by omega)
       have ha := eq_puts hdef hsz hoth (fun i hi => (hj i hi).1)
       subst ha
       clear hj hoth hdef hsz hap
       change v 43 = _ at hv43
       simp only [puts, List.getD_cons_zero, List.getD_cons_succ, hv43]
       generalize v 0 = v0
       generalize v 1 = v1
       generalize v 2 = v2
       generalize v 3 = v3
       generalize v 4 = v4
       generalize v 5 = v5
       generalize v 6 = v6
       generalize v 7 = v7
       generalize v 8 = v8
       generalize v 9 = v9
       generalize v 10 = v10
       generalize v 11 = v11
       generalize v 12 = v12
       generalize v 13 = v13
       generalize v 14 = v14
       generalize v 15 = v15
       generalize v 16 = v16
       generalize v 17 = v17
       generalize v 18 = v18
       generalize v 19 = v19
       generalize v 20 = v20
       generalize v 21 = v21
       generalize v 22 = v22
       generalize v 23 = v23
       generalize v 24 = v24
       generalize v 25 = v25
       generalize v 26 = v26
       generalize v 27 = v27
       generalize v 28 = v28
       generalize v 29 = v29
       generalize v 30 = v30
       generalize v 31 = v31
       generalize v 32 = v32
       generalize v 33 = v33
       generalize v 34 = v34
       generalize v 35 = v35
       generalize v 36 = v36
       generalize v 37 = v37
       generalize v 38 = v38
       generalize v 39 = v39
       generalize v 40 = v40
       generalize v 41 = v41
       generalize v 42 = v42
       clear hv43
       simp only [Act.put, List.setIfInBounds_toArray, List.set_cons_zero, List.set_cons_succ]
       show wpList _ _ _ [_] _ _
       have HB := hI hb
       clear hb
       go_wp2
       go_ret
       exact ⟨rfl, HB.out⟩
    · have h3n : ((n : Int) == (n' : Int)) = false := by rw [beq_eq_false_iff_ne]; omega
      have hr : Hid ((true && (true && true) && (n == n') && r) = false) := by show _ = _; simp [h3]
      rw [hr.out]
      clear hc
      go_enter Tryz.func136, Tryz.ntmps136
      go_wp2_with fail
      go_quiet (fail)
      go_wp2
      go_ret
      exact ⟨rfl, below_dn _ _⟩
end Go.Proofs.YtinjhnnpbejccaaGreatDoor
