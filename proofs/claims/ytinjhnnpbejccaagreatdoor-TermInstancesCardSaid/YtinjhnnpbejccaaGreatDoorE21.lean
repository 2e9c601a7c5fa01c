/- The program settles places; equality of terms, one term at one address. -/
import Derived.Test.YtinjhnnpbejccaaGreatDoorE19
import Derived.Test.YtinjhnnpbejccaaGreatDoorE20
import Derived.Laws.EntriesVeiled
import Derived.Test.YtinjhnnpbejccaaGreatDoorE17
namespace Go.Proofs.YtinjhnnpbejccaaGreatDoor
open Go Go.RowKit
set_option linter.unusedVariables false
set_option maxHeartbeats 32000000
set_option maxRecDepth 100000
def CtAt (w : World) (g : Nat) (k : Nat) : Prop := w.heap[g]? = some (.cells #[.int .i64 k, .map none] 133 (0, 0))
def RunT (w wr : World) (g : Nat) (lo hi : Nat) : Prop := w.grownBy wr (some g) ∧ ∃ k, CtAt wr g k ∧ lo ≤ k ∧ k ≤ hi
theorem CtAt.lt {w : World} {g : Nat} {k : Nat} (h : CtAt w g k) : g < w.heap.size := by
 unfold CtAt at h
 rcases Nat.lt_or_ge g w.heap.size with hlt | hge
 · exact hlt
 · rw [Array.getElem?_eq_none hge] at h; cases h
theorem CtAt.c0 {w : World} {g : Nat} {k : Nat} (h : CtAt w g k) : w.cell? ⟨g, 0, none⟩ = some (.int .i64 k) := by rw [cell_of_row _ _ _ _ _ _ h]; rfl
theorem CtAt.f0 {w : World} {g : Nat} {k : Nat} (h : CtAt w g k) : w.frozen? ⟨g, 0, none⟩ = false := by
 unfold CtAt at h
 simp [World.frozen?, h]
theorem CtAt.set {w : World} {g : Nat} {k : Nat} (h : CtAt w g k) (k' : Nat) : CtAt (w.setCell ⟨g, 0, none⟩ (.int .i64 (k' : Nat))) g k' := by
 unfold CtAt at h ⊢
 simp [World.setCell, Array.getElem?_modify, h]
theorem CtAt.below {w wr : World} {g : Nat} {k : Nat} (h : CtAt w g k) (hb : Below w.heap.size w wr) : CtAt wr g k := (hb.block g h.lt).trans h
theorem RunT.start {w : World} {g : Nat} {k : Nat} (h : CtAt w g k) : RunT w w g k k := ⟨⟨rfl, rfl, rfl, Nat.le_refl _, fun _ _ _ => rfl⟩, k, h, Nat.le_refl _, Nat.le_refl _⟩
theorem RunT.below {w wr w' : World} {g : Nat} {lo hi : Nat} (h : RunT w wr g lo hi) (hb : Below wr.heap.size wr w') : RunT w w' g lo hi := by
 obtain ⟨hg, k, hc, h1, h2⟩ := h
 exact ⟨⟨hb.os.trans hg.os, hb.tape.trans hg.tape, hb.output.trans hg.output, Nat.le_trans hg.size hb.size, fun i hi hn => (hb.block i (Nat.lt_of_lt_of_le hi hg.size)).trans (hg.block i hi hn)⟩, k, (hb.block g hc.lt).trans hc, h1, h2⟩
theorem RunT.drew {w wr : World} {g : Nat} {lo hi : Nat} (h : RunT w wr g lo hi) : RunT w wr.drew g lo hi := h.below ⟨rfl, rfl, rfl, Nat.le_refl _, fun _ _ => rfl⟩
theorem RunT.more {w wr : World} {g : Nat} {lo hi hi' : Nat} (h : RunT w wr g lo hi) (hh : hi ≤ hi') : RunT w wr g lo hi' := by
 obtain ⟨hg, k, hc, h1, h2⟩ := h
 exact ⟨hg, k, hc, h1, Nat.le_trans h2 hh⟩
theorem RunT.trans {w wr w' : World} {g : Nat} {lo hi' k : Nat} (h : w.grownBy wr (some g)) (hk : lo ≤ k) (h' : RunT wr w' g k hi') : RunT w w' g lo hi' := by
 obtain ⟨hg, k', hc, h1, h2⟩ := h'
 refine ⟨⟨hg.os.trans h.os, hg.tape.trans h.tape, hg.output.trans h.output, Nat.le_trans h.size hg.size, fun i hi hn => (hg.block i (Nat.lt_of_lt_of_le hi h.size) hn).trans (h.block i hi hn)⟩, k', hc, by omega, h2⟩
theorem RunT.set {w wr : World} {g : Nat} {lo k : Nat} (h : w.grownBy wr (some g)) (hc : CtAt wr g k) (hlo : lo ≤ k) : RunT w (wr.setCell ⟨g, 0, none⟩ (.int .i64 ((k + 1 : Nat) : Int))) g lo (k + 1) := by
 refine ⟨⟨h.os, h.tape, h.output, by simpa [World.setCell] using h.size, fun i hi hn => ?_⟩, k + 1, hc.set (k + 1), by omega, Nat.le_refl _⟩
 exact (Below.heap_setCell wr ⟨g, 0, none⟩ _ i (fun e => hn (by rw [e]))).trans (h.block i hi hn)
theorem TmP.run {w wr : World} {S : Nat → Prop} {g : Nat} {lo hi : Nat} {t : Tm} {b k : Nat} {cs : List Value} (h : TmP w S t b k cs) (hS : In S w) (hg : ¬ S g) (r : RunT w wr g lo hi) : TmP wr S t b k cs :=
 h.keep (fun _ h => h) fun q hq => r.1.block q (hS q hq) (fun e => hg (by injection e with e; rwa [e] at hq))
theorem cell_run {w wr : World} {S : Nat → Prop} {g : Nat} {lo hi : Nat} {b k : Nat} {v : Value} (h : w.cell? ⟨b, k, none⟩ = some v) (hb : S b) (hS : In S w) (hg : ¬ S g) (r : RunT w wr g lo hi) : wr.cell? ⟨b, k, none⟩ = some v :=
 (World.cell?_of_block (a := ⟨b, k, none⟩) (r.1.block b (hS b hb) (fun e => hg (by injection e with e; rwa [e] at hb)))).trans h
def EqPl (p q : Value) (r : Bool) (W : World) : Prop := ∀ d, (Op.equalIn (d + 1) 91 p q).run Tryz.prog W = .ok r W
theorem infoTm : ∃ j, Tryz.prog.info? 35 = some j ∧ j.size ≠ 0 := by
 have e : (Tryz.prog.info? 35).map (fun i => decide (i.size ≠ 0)) = some true := by kernel_rfl
 generalize Tryz.prog.info? 35 = i at e
 cases i with
 | none => cases e
 | some j => exact ⟨j, rfl, by simpa using e⟩
theorem eqPl_zero (W : World) : EqPl (.pointer none) (.pointer none) true W := fun d => by
 simp [Op.equalIn, run_underlying Tryz.underlying91]
theorem eqPl_same (W : World) (a : Addr) : EqPl (.pointer (some a)) (.pointer (some a)) true W := fun d => by
 obtain ⟨j, hj, _⟩ := infoTm
 simp [Op.equalIn, run_underlying Tryz.underlying91, sizeOf, typeInfo, hj, run_sameAddr_same]
theorem eqPl_other (W : World) {b o b' o' : Nat} (h : Plain W b) (h' : Plain W b') (hne : ¬ (b = b' ∧ o = o')) : EqPl (.pointer (some ⟨b, o, none⟩)) (.pointer (some ⟨b', o', none⟩)) false W := fun d => by
 obtain ⟨_, _, h1⟩ := h
 obtain ⟨_, _, h2⟩ := h'
 obtain ⟨j, hj, hs⟩ := infoTm
 have hn : (⟨b, o, none⟩ : Addr) ≠ ⟨b', o', none⟩ := fun e => by
  injection e with e1 e2
  exact hne ⟨e1, e2⟩
 simp [Op.equalIn, run_underlying Tryz.underlying91, sizeOf, typeInfo, hj, hs, run_sameAddr_other W hn h1 h2]
theorem setT1 (g : Nat) (p0 q0 : Value) (n : Int) (h1 : p0.oneCell' = true) (h2 : q0.oneCell' = true) (w : World) (he : ∀ W, Below w.heap.size w W → EqPl p0 q0 true W) :
 Calls Tryz.prog 137 #[.pointer (some ⟨g, 0, none⟩), .agg #[p0, .int .i64 n], .agg #[q0, .int .i64 n]] w (RetB w true) := by
 have hb : Below w.heap.size w ((w.alloc (.cells #[p0, .int .i64 n] 112)).alloc (.cells #[q0, .int .i64 n] 112)) := Below.alloc (Below.alloc (Below.refl _ _) (Nat.le_refl _) _) (by simp) _
 have hE := he _ hb
 unfold EqPl at hE
 have HB := hI hb
 clear he hb
 go_enter Tryz.func137, Tryz.ntmps137
 go_wp2_with fail
 go_ret
 exact ⟨rfl, HB.out⟩
theorem setT0 (g : Nat) (p0 q0 : Value) (n : Int) (ho1 : p0.oneCell' = true) (ho2 : q0.oneCell' = true) (w0 w : World) (lo hi : Nat) (he : ∀ W, Below w.heap.size w W → EqPl p0 q0 false W) (hr : RunT w0 w g lo hi) (hh : hi + 1 ≤ 3000) :
 Calls Tryz.prog 137 #[.pointer (some ⟨g, 0, none⟩), .agg #[p0, .int .i64 n], .agg #[q0, .int .i64 n]] w (fun e w' => e = .returned (.bool false) ∧ RunT w0 w' g lo (hi + 1)) := by
 have hb : Below w.heap.size w ((w.alloc (.cells #[p0, .int .i64 n] 112)).alloc (.cells #[q0, .int .i64 n] 112)) := Below.alloc (Below.alloc (Below.refl _ _) (Nat.le_refl _) _) (by simp) _
 have hE := he _ hb
 unfold EqPl at hE
 obtain ⟨hg, k, hc, h1, h2⟩ := hr
 have hr2 := RunT.below (show RunT w0 w g lo k from ⟨hg, k, hc, h1, Nat.le_refl _⟩) hb
 have hc2 := hc.below hb
 have c0 := hc2.c0
 have f0 := hc2.f0
 have hk : (k : Int) + 1 ≤ 3000 := by omega
 have hk0 : (k : Int) ≤ 3000 := by omega
 have R := hI ((RunT.set hr2.1 hc2 h1).more (show k + 1 ≤ hi + 1 by omega))
 have cs : ((((w.alloc (.cells #[p0, .int .i64 n] 112)).alloc (.cells #[q0, .int .i64 n] 112))).setCell ⟨g, 0, none⟩ (.int .i64 ((k + 1 : Nat) : Int))).cell? ⟨g, 0, none⟩ = some (.int .i64 ((k + 1 : Nat) : Int)) := (hc2.set (k + 1)).c0
 clear hc hg he hb hr2 hc2
 go_enter Tryz.func137, Tryz.ntmps137
 go_wp2_with fail
 go_ret
 exact ⟨rfl, R.out⟩
def eqN (s s' : Nm) : Bool := s.1.toList == s'.1.toList && s.2.toList == s'.2.toList
mutual
def eqT : Tm → Tm → Bool
 | .var s, .var s' => eqN s s'
 | .con o, .con o' => decide (o = o')
 | .app s l, .app s' l' => eqN s s' && eqTs l l'
 | _, _ => false
def eqTs : List Tm → List Tm → Bool
 | [], [] => true
 | t :: l, t' :: l' => eqT t t' && eqTs l l'
 | _, _ => false
end
theorem ba_eq {a b : ByteArray} (h : (a.toList == b.toList) = true) : a = b := by
 have h1 := eq_of_beq h
 rw [Lib.toList_data, Lib.toList_data] at h1
 apply ByteArray.ext
 exact Array.toList_inj.1 h1
theorem eqN_iff {s s' : Nm} : eqN s s' = true ↔ s = s' := by
 constructor
 · intro h
   unfold eqN at h
   rw [Bool.and_eq_true] at h
   exact Prod.ext (ba_eq h.1) (ba_eq h.2)
 · rintro rfl; unfold eqN; simp
mutual
theorem eqT_refl : ∀ t : Tm, eqT t t = true
 | .var s => by unfold eqT; exact eqN_iff.2 rfl
 | .con o => by unfold eqT; simp
 | .app s l => by unfold eqT; rw [eqN_iff.2 rfl, eqTs_refl l]; rfl
theorem eqTs_refl : ∀ l : List Tm, eqTs l l = true
 | [] => by unfold eqTs; rfl
 | t :: l => by unfold eqTs; rw [eqT_refl t, eqTs_refl l]; rfl
end
mutual
theorem TmAt.inj {w : World} {S S' : Nat → Prop} : ∀ (t t' : Tm) (cs : List Value), TmAt w S t cs → TmAt w S' t' cs → t = t'
 | .var s, t', cs, h, h' => by
  obtain ⟨v, A, c, e, hv, ha⟩ := h'.open
  unfold TmAt at h
  rw [h] at e
  simp only [cellsT, List.cons.injEq, Value.int.injEq, Value.string.injEq, true_and] at e
  cases t' with
  | var s' => rw [Prod.ext e.2.1 e.2.2.1]; rfl
  | con o => exact absurd e.1 (by simp [Tm.kd])
  | app s' l => exact absurd e.1 (by simp [Tm.kd])
 | .con o, t', cs, h, h' => by
  unfold TmAt at h
  obtain ⟨p, e1, hp⟩ := h
  obtain ⟨v, A, c, e, hv, ha⟩ := h'.open
  rw [e1] at e
  simp only [cellsT, List.cons.injEq, Value.int.injEq, Value.string.injEq, true_and] at e
  cases t' with
  | var s' => exact absurd e.1 (by simp [Tm.kd])
  | con o' =>
   obtain ⟨p', rfl, hp'⟩ := hv
   have h2 := (List.append_inj e.2.2.2 (by rw [cellsO_length, cellsO_length])).1
   rw [(cells_inj h2 hp hp').1]
  | app s' l => exact absurd e.1 (by simp [Tm.kd])
 | .app s l, t', cs, h, h' => by
  unfold TmAt at h
  obtain ⟨A, c, e1, hl, hA⟩ := h
  obtain ⟨v, A', c', e, hv, ha⟩ := h'.open
  rw [e1] at e
  simp only [cellsT, List.cons.injEq, Value.int.injEq, Value.string.injEq, true_and] at e
  cases t' with
  | var s' => exact absurd e.1 (by simp [Tm.kd])
  | con o' => exact absurd e.1 (by simp [Tm.kd])
  | app s' l' =>
   have e0 : v = zO := hv
   subst e0
   have h2 := (List.append_inj e.2.2.2 rfl).2
   simp only [List.cons.injEq, Value.slice.injEq, and_true] at h2
   obtain ⟨rfl, hlen, _⟩ := h2
   change l.length = l'.length at hlen
   have es : s = s' := Prod.ext e.2.1 e.2.2.1
   rw [es]
   by_cases h0 : 0 < l.length
   · obtain ⟨b, o, rfl, _, hr⟩ := hA h0
     obtain ⟨b', o', e2, _, hr'⟩ := ha.2 (by show 0 < l'.length; omega)
     injection e2 with e2
     injection e2 with e3 e4
     subst e3 e4
     rw [TmsAt.inj b o l l' hlen hr hr']
   · have e3 : l = [] := List.length_eq_zero_iff.1 (by omega)
     have e4 : l' = [] := List.length_eq_zero_iff.1 (by omega)
     rw [e3, e4]
theorem TmsAt.inj {w : World} {S S' : Nat → Prop} (b o : Nat) : ∀ (l l' : List Tm), l.length = l'.length → TmsAt w S b o l → TmsAt w S' b o l' → l = l'
 | [], [], _, _, _ => rfl
 | [], _ :: _, h, _, _ => by simp at h
 | _ :: _, [], h, _, _ => by simp at h
 | t :: l, t' :: l', h, h1, h2 => by
  unfold TmsAt at h1 h2
  obtain ⟨⟨cs, k1, k2⟩, k3⟩ := h1
  obtain ⟨⟨cs', j1, j2⟩, j3⟩ := h2
  have ec : cs = cs' := by
   apply List.ext_getElem?
   intro j
   by_cases hj : j < 11
   · have l1 : j < cs.length := by rw [k1.length]; exact hj
     have l2 : j < cs'.length := by rw [j1.length]; exact hj
     have e1 := k2 j _ (List.getElem?_eq_getElem l1)
     have e2 := j2 j _ (List.getElem?_eq_getElem l2)
     rw [List.getElem?_eq_getElem l1, List.getElem?_eq_getElem l2, ← e1, ← e2]
   · rw [List.getElem?_eq_none (by rw [k1.length]; omega), List.getElem?_eq_none (by rw [j1.length]; omega)]
  subst ec
  rw [TmAt.inj t t' cs k1 j1, TmsAt.inj b (o + 11) l l' (by simpa using h) k3 j3]
end
def AsV (w : World) (S : Nat → Prop) (l : List (Nm × Tm)) (v : Value) : Prop := ∃ A c, v = .slice A l.length c ∧ l.length ≤ c ∧
 (0 < l.length → ∃ b o, A = some ⟨b, o, none⟩ ∧ (S b ∧ Plain w b) ∧ ∀ i (hi : i < l.length), ∃ cs, TmAt w S l[i].2 cs ∧ ∀ j u, (Value.string l[i].1.1 :: Value.string l[i].1.2 :: cs)[j]? = some u → w.cell? ⟨b, o + i * 13 + j, none⟩ = some u)
theorem AsV.keep {w w' : World} {S S' : Nat → Prop} (hS : ∀ b, S b → S' b) (hk : ∀ b, S b → w'.heap[b]? = w.heap[b]?) {l : List (Nm × Tm)} {v : Value} (h : AsV w S l v) : AsV w' S' l v := by
 obtain ⟨A, c, h1, h2, h3⟩ := h
 refine ⟨A, c, h1, h2, fun hl => ?_⟩
 obtain ⟨b, o, e, hb, hr⟩ := h3 hl
 refine ⟨b, o, e, ⟨hS b hb.1, hb.2.keep (hk b hb.1)⟩, fun i hi => ?_⟩
 obtain ⟨cs, k1, k2⟩ := hr i hi
 exact ⟨cs, TmAt.keep hS hk _ _ k1, fun j u hj => (World.cell?_of_block (a := ⟨b, o + i * 13 + j, none⟩) (hk b hb.1)).trans (k2 j u hj)⟩
theorem AsV.below {w w' : World} {S : Nat → Prop} {B : Nat} {l : List (Nm × Tm)} {v : Value} (h : AsV w S l v) (hS : ∀ b, S b → b < B) (hb : Below B w w') : AsV w' S l v := h.keep (fun _ h => h) fun q hq => hb.block q (hS q hq)
theorem AsV.more {w : World} {S S' : Nat → Prop} {l : List (Nm × Tm)} {v : Value} (h : AsV w S l v) (hS : ∀ b, S b → S' b) : AsV w S' l v := h.keep hS fun _ _ => rfl
def findA : List (Nm × Tm) → Nm → Option Tm
 | [], _ => none
 | a :: r, n => if eqN a.1 n = true then some a.2 else findA r n
theorem findA_drop {l : List (Nm × Tm)} {i : Nat} (hi : i < l.length) (n : Nm) : findA (l.drop i) n = if eqN l[i].1 n = true then some l[i].2 else findA (l.drop (i + 1)) n := by rw [List.drop_eq_getElem_cons hi]; rfl
mutual
def subT (s : List (Nm × Tm)) : Tm → Tm
 | .var x => match findA s x with
  | some t => t
  | none => .var x
 | .con o => .con o
 | .app f l => .app f (subTs s l)
def subTs (s : List (Nm × Tm)) : List Tm → List Tm
 | [] => []
 | t :: l => subT s t :: subTs s l
end
mutual
def chS (s : List (Nm × Tm)) : Tm → Bool
 | .var x => (findA s x).isSome
 | .con _ => false
 | .app _ l => chSs s l
def chSs (s : List (Nm × Tm)) : List Tm → Bool
 | [] => false
 | t :: l => chS s t || chSs s l
end
theorem subTs_map (s : List (Nm × Tm)) : ∀ l, subTs s l = l.map (subT s)
 | [] => by unfold subTs; rfl
 | t :: l => by unfold subTs; rw [subTs_map s l]; rfl
theorem chSs_any (s : List (Nm × Tm)) : ∀ l, chSs s l = l.any (chS s)
 | [] => by unfold chSs; rfl
 | t :: l => by unfold chSs; rw [chSs_any s l]; rfl
mutual
theorem sub_same (s : List (Nm × Tm)) : ∀ t, chS s t = false → subT s t = t
 | .var x, h => by
  unfold chS at h
  unfold subT
  cases hf : findA s x with
  | none => rfl
  | some t => rw [hf] at h; cases h
 | .con o, _ => by unfold subT; rfl
 | .app f l, h => by
  unfold chS at h
  unfold subT
  rw [subs_same s l h]
theorem subs_same (s : List (Nm × Tm)) : ∀ l, chSs s l = false → subTs s l = l
 | [], _ => by unfold subTs; rfl
 | t :: l, h => by
  unfold chSs at h
  rw [Bool.or_eq_false_iff] at h
  unfold subTs
  rw [sub_same s t h.1, subs_same s l h.2]
end
theorem sub_ptM (s : List (Nm × Tm)) (t : Tm) (h : t.kd ≠ 1) : subT s t = ptM (subT s) t ∧ chS s t = chM (chS s) t := by
 cases t with
 | var x => exact absurd rfl h
 | con o => exact ⟨by unfold subT ptM; rfl, by unfold chS chM; rfl⟩
 | app f l => exact ⟨by unfold subT ptM; rw [subTs_map], by unfold chS chM; rw [chSs_any]⟩
theorem arr12 (a b c : Value) : #[a] ++ #[b, c] = #[a, b, c] := rfl
structure SubC (Y : World) (S : Nat → Prop) (ge Be Bs : Nat) (s : List (Nm × Tm)) (sv : Value) : Prop where
 ed : EdAt Y ge 76 #[.pointer (some ⟨Be, 0, none⟩), .pointer (some ⟨Bs, 0, none⟩)]
 ce : Y.cell? ⟨Be, 0, none⟩ = some (.pointer (some ⟨ge, 0, none⟩))
 cs : Y.cell? ⟨Bs, 0, none⟩ = some sv
 sl : AsV Y S s sv
 hS : In S Y
theorem SubC.keep {Y Y' : World} {S : Nat → Prop} {ge Be Bs : Nat} {s : List (Nm × Tm)} {sv : Value} (h : SubC Y S ge Be Bs s sv) (hb : Below Y.heap.size Y Y') : SubC Y' S ge Be Bs s sv :=
 ⟨h.ed.keep hb, (hb.cell (p := ⟨Be, 0, none⟩) (World.block_lt_of_cell? Y _ h.ce)).trans h.ce, (hb.cell (p := ⟨Bs, 0, none⟩) (World.block_lt_of_cell? Y _ h.cs)).trans h.cs, h.sl.below h.hS hb, h.hS.later hb.size⟩
def FdW (g : Nat) (W wo : World) (s : List (Nm × Tm)) (n : Nm) (i : Nat) (R : Option Tm) : Prop := findA (s.drop i) n = R ∧ Below W.heap.size W wo ∧ TB wo g zT
def optT (R : Option Tm) (x : Nm) : Tm := match R with
 | some t => t
 | none => .var x
theorem subVar (s : List (Nm × Tm)) (sv : Value) (Be Bs ge : Nat) (S : Nat → Prop) (x : Nm) (W : World) (C : SubC W S ge Be Bs s sv) (b k : Nat) (cs : List Value) (hQ : TmQ W S (.var x) b k cs) (hs : s.length ≤ 100000) :
 Calls Tryz.prog 76 #[.pointer (some ⟨b, k, none⟩), .pointer (some ⟨Be, 0, none⟩), .pointer (some ⟨Bs, 0, none⟩)] W (RetTB W S (subT s (.var x)) (chS s (.var x))) := by
 have hA := below_alT W (.cells #[.int .i64 0, .string ⟨#[]⟩, .string ⟨#[]⟩, .int .i64 0, .string ⟨#[]⟩, .string ⟨#[]⟩, .string ⟨#[]⟩, .string ⟨#[]⟩, .string ⟨#[]⟩, .slice none 0 0, .slice none 0 0] 35)
 have C2 := C.keep hA
 have hQ2 := hQ.below C.hS hA
 have B4 : TB (W.alloc (.cells #[.int .i64 0, .string ⟨#[]⟩, .string ⟨#[]⟩, .int .i64 0, .string ⟨#[]⟩, .string ⟨#[]⟩, .string ⟨#[]⟩, .string ⟨#[]⟩, .string ⟨#[]⟩, .slice none 0 0, .slice none 0 0] 35)) W.heap.size zT := heap_alloc_new W _
 obtain ⟨x0, x1, x2, x3, x4, x5, x6, A9, c9, ecs, hv, _, l0, l1, l2, l3, l4, l5, l6, l7, l8, l9, l10⟩ := hQ2.cells
 have hx6 : [x0, x1, x2, x3, x4, x5, x6] = zO := hv
 unfold zO at hx6
 simp only [List.cons.injEq, and_true] at hx6
 obtain ⟨rfl, rfl, rfl, rfl, rfl, rfl, rfl⟩ := hx6
 change _ = some (Value.int .i64 1) at l0
 change _ = some (Value.string x.1) at l1
 change _ = some (Value.string x.2) at l2
 change _ = some (Value.slice A9 0 c9) at l10
 subst ecs
 obtain ⟨A, c, rfl, hlc, hsA⟩ := C2.sl
 have cS := C2.cs
 have hlb : b < (W.alloc (.cells #[.int .i64 0, .string ⟨#[]⟩, .string ⟨#[]⟩, .int .i64 0, .string ⟨#[]⟩, .string ⟨#[]⟩, .string ⟨#[]⟩, .string ⟨#[]⟩, .string ⟨#[]⟩, .slice none 0 0, .slice none 0 0] 35)).heap.size := hQ2.1.1
 have hlS : Bs < (W.alloc (.cells #[.int .i64 0, .string ⟨#[]⟩, .string ⟨#[]⟩, .int .i64 0, .string ⟨#[]⟩, .string ⟨#[]⟩, .string ⟨#[]⟩, .string ⟨#[]⟩, .string ⟨#[]⟩, .slice none 0 0, .slice none 0 0] 35)).heap.size := World.block_lt_of_cell? _ _ cS
 have HQT := hI hQ2.2.1
 have HSA := hI hsA
 have HSin := hI C2.hS
 have HA := hI hA
 have HS0 := hI C.hS
 have HLB := hI hlb
 have HLS := hI hlS
 have HCS := hI cS
 obtain ⟨R, hR⟩ : ∃ R, findA s x = R := ⟨_, rfl⟩
 have HRES : Hid (subT s (.var x) = optT R x ∧ chS s (.var x) = R.isSome) := ⟨by unfold subT optT; rw [hR], by unfold chS; rw [hR]⟩
 rw [HRES.out.1, HRES.out.2]
 have HCL : Hid (∀ X, Below (W.alloc (.cells #[.int .i64 0, .string ⟨#[]⟩, .string ⟨#[]⟩, .int .i64 0, .string ⟨#[]⟩, .string ⟨#[]⟩, .string ⟨#[]⟩, .string ⟨#[]⟩, .string ⟨#[]⟩, .slice none 0 0, .slice none 0 0] 35)).heap.size (W.alloc (.cells #[.int .i64 0, .string ⟨#[]⟩, .string ⟨#[]⟩, .int .i64 0, .string ⟨#[]⟩, .string ⟨#[]⟩, .string ⟨#[]⟩, .string ⟨#[]⟩, .string ⟨#[]⟩, .slice none 0 0, .slice none 0 0] 35)) X → X.cell? ⟨b, k, none⟩ = some (Value.int .i64 1) ∧ X.cell? ⟨b, k + 1, none⟩ = some (.string x.1) ∧ X.cell? ⟨b, k + 2, none⟩ = some (.string x.2) ∧ X.cell? ⟨b, k + 3, none⟩ = some (Value.int .i64 0) ∧ X.cell? ⟨b, k + 4, none⟩ = some (Value.string ⟨#[]⟩) ∧ X.cell? ⟨b, k + 5, none⟩ = some (Value.string ⟨#[]⟩) ∧ X.cell? ⟨b, k + 6, none⟩ = some (Value.string ⟨#[]⟩) ∧ X.cell? ⟨b, k + 7, none⟩ = some (Value.string ⟨#[]⟩) ∧ X.cell? ⟨b, k + 8, none⟩ = some (Value.string ⟨#[]⟩) ∧ X.cell? ⟨b, k + 9, none⟩ = some (Value.slice none 0 0) ∧ X.cell? ⟨b, k + 10, none⟩ = some (Value.slice A9 0 c9)) := fun X hX =>
  ⟨(hX.cell (p := ⟨b, k, none⟩) hlb).trans l0, (hX.cell (p := ⟨b, k + 1, none⟩) hlb).trans l1, (hX.cell (p := ⟨b, k + 2, none⟩) hlb).trans l2, (hX.cell (p := ⟨b, k + 3, none⟩) hlb).trans l3, (hX.cell (p := ⟨b, k + 4, none⟩) hlb).trans l4, (hX.cell (p := ⟨b, k + 5, none⟩) hlb).trans l5, (hX.cell (p := ⟨b, k + 6, none⟩) hlb).trans l6, (hX.cell (p := ⟨b, k + 7, none⟩) hlb).trans l7, (hX.cell (p := ⟨b, k + 8, none⟩) hlb).trans l8, (hX.cell (p := ⟨b, k + 9, none⟩) hlb).trans l9, (hX.cell (p := ⟨b, k + 10, none⟩) hlb).trans l10⟩
 obtain ⟨L, hL⟩ : ∃ L, s.length = L := ⟨_, rfl⟩
 rw [hL] at hs hlc cS
 have HCS2 : Hid ((W.alloc (.cells #[.int .i64 0, .string ⟨#[]⟩, .string ⟨#[]⟩, .int .i64 0, .string ⟨#[]⟩, .string ⟨#[]⟩, .string ⟨#[]⟩, .string ⟨#[]⟩, .string ⟨#[]⟩, .slice none 0 0, .slice none 0 0] 35)).cell? ⟨Bs, 0, none⟩ = some (.slice A L c)) := cS
 have HL := hI hL
 have h0 : Hid (FdW W.heap.size (W.alloc (.cells #[.int .i64 0, .string ⟨#[]⟩, .string ⟨#[]⟩, .int .i64 0, .string ⟨#[]⟩, .string ⟨#[]⟩, .string ⟨#[]⟩, .string ⟨#[]⟩, .string ⟨#[]⟩, .slice none 0 0, .slice none 0 0] 35)) (W.alloc (.cells #[.int .i64 0, .string ⟨#[]⟩, .string ⟨#[]⟩, .int .i64 0, .string ⟨#[]⟩, .string ⟨#[]⟩, .string ⟨#[]⟩, .string ⟨#[]⟩, .string ⟨#[]⟩, .slice none 0 0, .slice none 0 0] 35)) s x 0 R) := ⟨by rw [List.drop_zero]; exact hR, Below.refl _ _, B4⟩
 clear l1 l2 l3 l4 l5 l6 l7 l8 l9 l10 hQ hQ2 C C2 hsA hA hlb hlS hR hL HRES hv HCS
 go_enter Tryz.func76, Tryz.ntmps76
 go_wp2_with fail
 generalize (W.alloc (.cells #[.int .i64 0, .string ⟨#[]⟩, .string ⟨#[]⟩, .int .i64 0, .string ⟨#[]⟩, .string ⟨#[]⟩, .string ⟨#[]⟩, .string ⟨#[]⟩, .string ⟨#[]⟩, .slice none 0 0, .slice none 0 0] 35)) = Y at *
 go_loopw [19] (fun v wr => ∃ (i : Nat), i ≤ L ∧ v = .int .i64 (i : Int) ∧ Hid (FdW W.heap.size Y wr s x i R)) (fun v _ => L - (intOf v).toNat)
 case atStart => exact ⟨0, Nat.zero_le _, rfl, h0⟩
 case round =>
  clear h0
  obtain ⟨i, hi, rfl, hE⟩ := hrel
  obtain ⟨wo, rfl⟩ : ∃ wo : World, wo = wr := ⟨_, rfl⟩
  obtain ⟨hf, hb0, hg⟩ := hE.out
  clear hE
  have cs0 := (hb0.cell (p := ⟨Bs, 0, none⟩) HLS.out).trans HCS2.out
  by_cases hlt : i < L
  · have hil : i < s.length := by rw [HL.out]; exact hlt
    obtain ⟨b1, o1, rfl, hS1, hcell⟩ := HSA.out (by omega)
    obtain ⟨cs1, ht1, hc1⟩ := hcell i hil
    obtain ⟨y0, y1, y2, y3, y4, y5, y6, A1, c1', rfl, hv1, ha1⟩ := ht1.eleven
    have hlb1 : b1 < Y.heap.size := HSin.out b1 hS1.1
    have LF : ∀ j u, (Value.string s[i].1.1 :: Value.string s[i].1.2 :: [Value.int .i64 s[i].2.kd, .string s[i].2.nm.1, .string s[i].2.nm.2, y0, y1, y2, y3, y4, y5, y6, .slice A1 s[i].2.args.length c1'])[j]? = some u → wo.cell? ⟨b1, o1 + i * 13 + j, none⟩ = some u := fun j u hj => (hb0.cell (p := ⟨b1, o1 + i * 13 + j, none⟩) hlb1).trans (hc1 j u hj)
    have k0 := LF 0 _ rfl
    have k1 := LF 1 _ rfl
    have k2 := LF 2 _ rfl
    have k3 := LF 3 _ rfl
    have k4 := LF 4 _ rfl
    have k5 := LF 5 _ rfl
    have k6 := LF 6 _ rfl
    have k7 := LF 7 _ rfl
    have k8 := LF 8 _ rfl
    have k9 := LF 9 _ rfl
    have k10 := LF 10 _ rfl
    have k11 := LF 11 _ rfl
    have k12 := LF 12 _ rfl
    rw [Nat.add_zero] at k0
    obtain ⟨c0, c1, c2, c3, c4, c5, c6, c7, c8, c9', c10⟩ := HCL.out wo hb0
    have step := findA_drop hil x
    rw [hf] at step
    have HT1 := hI ht1
    have O1 := hI ht1.o11
    have HB := hI hb0
    have HG := hI hg
    unfold eqN at step
    clear hf hcell hc1 LF hb0 hg ha1 hv1
    cases h1 : (s[i].1.1.toList == x.1.toList) with
    | false =>
     rw [h1] at step
     have HST : Hid (findA (s.drop (i + 1)) x = R) := (show findA (s.drop (i + 1)) x = R from by rw [step]; simp)
     clear step
     go_wp2_with fail
     go_quiet (fail)
     go_wp2
     go_roundw
     case rel => exact ⟨i + 1, by omega, by go_num, ⟨HST.out, HB.out.trans ((below_dn _ _).mono HB.out.size), HG.out.keep (below_dn _ _)⟩⟩
     case measure => simp [intOf]; omega
    | true =>
     cases h2 : (s[i].1.2.toList == x.2.toList) with
     | false =>
      rw [h1, h2] at step
      have HST : Hid (findA (s.drop (i + 1)) x = R) := (show findA (s.drop (i + 1)) x = R from by rw [step]; simp)
      clear step
      go_wp2_with fail
      go_quiet (fail)
      go_wp2
      go_roundw
      case rel => exact ⟨i + 1, by omega, by go_num, ⟨HST.out, HB.out.trans ((below_dn _ _).mono HB.out.size), HG.out.keep (below_dn _ _)⟩⟩
      case measure => simp [intOf]; omega
     | true =>
      rw [h1, h2] at step
      have hR : R = some s[i].2 := by rw [step]; simp
      subst hR
      clear step
      have HRS : Hid (optT (some s[i].2) x = s[i].2 ∧ (some s[i].2).isSome = true) := ⟨rfl, rfl⟩
      rw [HRS.out.1, HRS.out.2]
      go_wp2_with fail
      go_quiet (fail)
      change (wo.drewN nq).cell? _ = _ at k2 k3 k4 k5 k6 k7 k8 k9 k10 k11 k12
      have HBn : Hid (Below Y.heap.size Y (wo.drewN nq)) := HB.out.trans ((below_dn _ _).mono HB.out.size)
      have HGn : Hid (TB (wo.drewN nq) W.heap.size zT) := HG.out.keep (below_dn _ _)
      clear c0 c1 c2 c3 c4 c5 c6 c7 c8 c9' c10 k0 k1 HB HG
      have cs1 : (wo.drewN nq).cell? ⟨Bs, 0, none⟩ = some (.slice (some ⟨b1, o1, none⟩) L c) := cs0
      clear cs0
      generalize wo.drewN nq = wn at *
      have HTn := hI ((HT1.out.below HSin.out HBn.out).more fun b hb => (show Upto W wn S b from .inl hb))
      go_wp2_with ((with_reducible refine storeTb (cs := [Value.int .i64 s[i].2.kd, .string s[i].2.nm.1, .string s[i].2.nm.2, y0, y1, y2, y3, y4, y5, y6, .slice A1 s[i].2.args.length c1']) (.tmp 4) (.tmp 36) ?_ ?_ ?_ ?_ HGn.out ?_ ?_ ?_ ?_); rfl; rfl; rfl; rfl; rfl; rfl; exact O1.out.2)
      exact retTbx rfl rfl rfl (HGn.out.set _) rfl (RetTB.mk (below_setRowO (HA.out.trans (HBn.out.mono HA.out.size)) (Nat.le_refl _) _) (TmAt.boxed HTn.out HGn.out.nb _))
  · have hiL : i = L := by omega
    have hn2 : ¬ (i : Int) < L := by omega
    have hR : R = none := by
     rw [← hf, hiL, ← HL.out, List.drop_length]; rfl
    subst hR
    have HRS : Hid (optT none x = .var x ∧ (none : Option Tm).isSome = false) := ⟨rfl, rfl⟩
    rw [HRS.out.1, HRS.out.2]
    obtain ⟨c0, c1, c2, c3, c4, c5, c6, c7, c8, c9', c10⟩ := HCL.out wo hb0
    have HB := hI hb0
    have HG := hI hg
    have O1 := hI HQT.out.o11
    have HTn := hI ((HQT.out.below HSin.out hb0).more fun b hb => (show Upto W wo S b from .inl hb))
    clear hf hb0 hg hiL hlt
    go_wp2_with ((with_reducible refine storeTb (cs := [Value.int .i64 1, .string x.1, .string x.2, .int .i64 0, .string ⟨#[]⟩, .string ⟨#[]⟩, .string ⟨#[]⟩, .string ⟨#[]⟩, .string ⟨#[]⟩, .slice none 0 0, .slice A9 0 c9]) (.tmp 4) (.tmp 40) ?_ ?_ ?_ ?_ HG.out ?_ ?_ ?_ ?_); rfl; rfl; rfl; rfl; rfl; rfl; exact O1.out.2)
    exact retTbx rfl rfl rfl (HG.out.set _) rfl (RetTB.mk (below_setRowO (HA.out.trans (HB.out.mono HA.out.size)) (Nat.le_refl _) _) (TmAt.boxed HTn.out HG.out.nb _))
theorem subNon (ed : Tm → Tm) (ch : Tm → Bool) (Be Bs ge : Nat) (S : Nat → Prop) (t : Tm) (W : World) (hS : In S W) (hce : W.cell? ⟨Be, 0, none⟩ = some (.pointer (some ⟨ge, 0, none⟩))) (b k : Nat) (cs : List Value) (hQ : TmQ W S t b k cs) (hk : t.kd ≠ 1)
 (hp : ∀ W', Below W.heap.size W W' → Calls Tryz.prog 77 #[.pointer (some ⟨ge, 0, none⟩), .pointer (some ⟨b, k, none⟩)] W' (RetTB W' S (ed t) (ch t))) :
 Calls Tryz.prog 76 #[.pointer (some ⟨b, k, none⟩), .pointer (some ⟨Be, 0, none⟩), .pointer (some ⟨Bs, 0, none⟩)] W (RetTB W S (ed t) (ch t)) := by
 have hA := below_alT W (.cells #[.int .i64 0, .string ⟨#[]⟩, .string ⟨#[]⟩, .int .i64 0, .string ⟨#[]⟩, .string ⟨#[]⟩, .string ⟨#[]⟩, .string ⟨#[]⟩, .string ⟨#[]⟩, .slice none 0 0, .slice none 0 0] 35)
 have hQ2 := hQ.below hS hA
 have B4 : TB (W.alloc (.cells #[.int .i64 0, .string ⟨#[]⟩, .string ⟨#[]⟩, .int .i64 0, .string ⟨#[]⟩, .string ⟨#[]⟩, .string ⟨#[]⟩, .string ⟨#[]⟩, .string ⟨#[]⟩, .slice none 0 0, .slice none 0 0] 35)) W.heap.size zT := heap_alloc_new W _
 obtain ⟨x0, x1, x2, x3, x4, x5, x6, A9, c9, ecs, hv, _, l0, l1, l2, l3, l4, l5, l6, l7, l8, l9, l10⟩ := hQ2.cells
 have ce := (hA.cell (p := ⟨Be, 0, none⟩) (World.block_lt_of_cell? W _ hce)).trans hce
 have HP := hI (hp _ hA)
 have hkn : (t.kd != 1) = true := by rw [bne_iff_ne]; exact hk
 have HA := hI hA
 have HB4 := hI B4
 have HS := hI hS
 generalize t.kd = K at l0 hkn
 generalize ed t = u at HP ⊢
 generalize ch t = r at HP ⊢
 clear l1 l2 l3 l4 l5 l6 l7 l8 l9 l10 hQ hQ2 hA B4 hv ecs hp hk hce hS
 go_enter Tryz.func76, Tryz.ntmps76
 go_wp2_with fail
 generalize (W.alloc (.cells #[.int .i64 0, .string ⟨#[]⟩, .string ⟨#[]⟩, .int .i64 0, .string ⟨#[]⟩, .string ⟨#[]⟩, .string ⟨#[]⟩, .string ⟨#[]⟩, .string ⟨#[]⟩, .slice none 0 0, .slice none 0 0] 35)) = Y at *
 refine HP.out.mono ?_
 rintro e w3 ⟨cs3, rfl, h3, hb3⟩
 have O3 := hI h3.o11
 have HB := hI (HB4.out.keep hb3)
 have H3 : Hid (TmAt w3 (Upto W w3 S) u cs3) := h3.more fun q hq => up3 HA.out (Below.refl _ _) q hq
 have HW := hI (HA.out.trans (hb3.mono HA.out.size))
 clear h3 hb3 ce l0
 go_wp2_with ((with_reducible refine storeTb (cs := cs3) (.tmp 4) (.tmp 15) ?_ ?_ ?_ ?_ HB.out ?_ ?_ ?_ ?_); rfl; rfl; rfl; rfl; rfl; exact O3.out.1; exact O3.out.2)
 exact retTbx rfl rfl rfl (HB.out.set _) O3.out.1 (RetTB.mk (below_setRowO HW.out (Nat.le_refl _) _) (TmAt.boxed H3.out HB.out.nb _))
theorem sub_hcf (Be Bs : Nat) (v : Value) (W : World) : (callFunc 76 (#[v] ++ #[.pointer (some ⟨Be, 0, none⟩), .pointer (some ⟨Bs, 0, none⟩)])).run Tryz.prog W = .ok (.enter 76 (#[v] ++ #[.pointer (some ⟨Be, 0, none⟩), .pointer (some ⟨Bs, 0, none⟩)])) W := by
 rw [arr12]
 go_simp
theorem subC (s : List (Nm × Tm)) (sv : Value) (Be Bs ge : Nat) (S : Nat → Prop) (hs : s.length ≤ 100000) : ∀ (t : Tm) (W : World) (b k : Nat) (cs : List Value), SubC W S ge Be Bs s sv → t.nodes ≤ 3000 → TmQ W S t b k cs →
 Calls Tryz.prog 76 (#[.pointer (some ⟨b, k, none⟩)] ++ #[.pointer (some ⟨Be, 0, none⟩), .pointer (some ⟨Bs, 0, none⟩)]) W (RetTB W S (subT s t) (chS s t)) := by
 intro t
 induction t using Tm.ind with
 | hv x => intro W b k cs C hn hQ; rw [arr12]; exact subVar s sv Be Bs ge S x W C b k cs hQ hs
 | hc o =>
  intro W b k cs C hn hQ
  rw [arr12]
  have e := sub_ptM s (.con o) (by simp [Tm.kd])
  refine subNon (subT s) (chS s) Be Bs ge S (.con o) W C.hS C.ce b k cs hQ (by simp [Tm.kd]) fun W' hw => ?_
  rw [e.1, e.2]
  exact partsE _ _ (subT s) (chS s) (.con o) b k ge cs W' S (C.hS.later hw.size) (C.ed.keep hw) (hQ.below C.hS hw) hn (sub_hcf Be Bs) (fun x hx => by simp [Tm.args] at hx) (fun x hx => by simp [Tm.args] at hx)
 | ha f l ih =>
  intro W b k cs C hn hQ
  rw [arr12]
  have e := sub_ptM s (.app f l) (by simp [Tm.kd])
  refine subNon (subT s) (chS s) Be Bs ge S (.app f l) W C.hS C.ce b k cs hQ (by simp [Tm.kd]) fun W' hw => ?_
  rw [e.1, e.2]
  have h2 : (Tm.app f l).nodes = 1 + Tm.nodesL l := (by unfold Tm.nodes; rfl)
  exact partsE _ _ (subT s) (chS s) (.app f l) b k ge cs W' S (C.hS.later hw.size) (C.ed.keep hw) (hQ.below C.hS hw) hn (sub_hcf Be Bs) (fun x hx W2 b2 k2 cs2 hw2 hq2 => ih x hx W2 b2 k2 cs2 ((C.keep hw).keep hw2) (by have := Tm.nodes_mem (show x ∈ l from hx); omega) hq2) (fun x _ h => sub_same s x h)
theorem substituteP (s : List (Nm × Tm)) (sv : Value) (t : Tm) (cs : List Value) (w : World) (S : Nat → Prop) (hS : In S w) (h : TmAt w S t cs) (hsv : AsV w S s sv) (hn : t.nodes ≤ 3000) (hs : s.length ≤ 100000) :
 Calls Tryz.prog 33 #[vTm cs, sv] w (RetT w S (subT s t)) := by
 have h1 := h
 obtain ⟨x0, x1, x2, x3, x4, x5, x6, A, c, rfl, _, _⟩ := h1.eleven
 have hsv' := hsv
 obtain ⟨A2, c2, rfl, _⟩ := hsv'
 have hA5 : Below w.heap.size w (((((w.alloc (.cells #[.int .i64 t.kd, .string t.nm.1, .string t.nm.2, x0, x1, x2, x3, x4, x5, x6, .slice A t.args.length c] 35)).alloc (.cells #[.slice A2 s.length c2] 50)).alloc (.cells #[.int .i64 0, .string ⟨#[]⟩, .string ⟨#[]⟩, .int .i64 0, .string ⟨#[]⟩, .string ⟨#[]⟩, .string ⟨#[]⟩, .string ⟨#[]⟩, .string ⟨#[]⟩, .slice none 0 0, .slice none 0 0] 35)).alloc (.cells #[.nilFunc, .pointer none] 99)).alloc (.cells #[.pointer (some ⟨w.heap.size + 1 + 1 + 1, 0, none⟩)] 95)) := Below.alloc (Below.alloc (Below.alloc (Below.alloc (Below.alloc (Below.refl _ _) (Nat.le_refl _) _) (by simp) _) (by simp <;> omega) _) (by simp <;> omega) _) (by simp <;> omega) _
 have E5 : (((((w.alloc (.cells #[.int .i64 t.kd, .string t.nm.1, .string t.nm.2, x0, x1, x2, x3, x4, x5, x6, .slice A t.args.length c] 35)).alloc (.cells #[.slice A2 s.length c2] 50)).alloc (.cells #[.int .i64 0, .string ⟨#[]⟩, .string ⟨#[]⟩, .int .i64 0, .string ⟨#[]⟩, .string ⟨#[]⟩, .string ⟨#[]⟩, .string ⟨#[]⟩, .string ⟨#[]⟩, .slice none 0 0, .slice none 0 0] 35)).alloc (.cells #[.nilFunc, .pointer none] 99)).alloc (.cells #[.pointer (some ⟨w.heap.size + 1 + 1 + 1, 0, none⟩)] 95)).heap[w.heap.size + 1 + 1 + 1]? = some (.cells #[.nilFunc, .pointer none] 99 (0, 0)) := (Below.heap_alloc _ _ _ (by simp)).trans (heap_new_at (by simp))
 have f0 : (((((w.alloc (.cells #[.int .i64 t.kd, .string t.nm.1, .string t.nm.2, x0, x1, x2, x3, x4, x5, x6, .slice A t.args.length c] 35)).alloc (.cells #[.slice A2 s.length c2] 50)).alloc (.cells #[.int .i64 0, .string ⟨#[]⟩, .string ⟨#[]⟩, .int .i64 0, .string ⟨#[]⟩, .string ⟨#[]⟩, .string ⟨#[]⟩, .string ⟨#[]⟩, .string ⟨#[]⟩, .slice none 0 0, .slice none 0 0] 35)).alloc (.cells #[.nilFunc, .pointer none] 99)).alloc (.cells #[.pointer (some ⟨w.heap.size + 1 + 1 + 1, 0, none⟩)] 95)).frozen? ⟨w.heap.size + 1 + 1 + 1, 0, none⟩ = false := by simp only [World.frozen?, E5]; rfl
 have e0 : (((((w.alloc (.cells #[.int .i64 t.kd, .string t.nm.1, .string t.nm.2, x0, x1, x2, x3, x4, x5, x6, .slice A t.args.length c] 35)).alloc (.cells #[.slice A2 s.length c2] 50)).alloc (.cells #[.int .i64 0, .string ⟨#[]⟩, .string ⟨#[]⟩, .int .i64 0, .string ⟨#[]⟩, .string ⟨#[]⟩, .string ⟨#[]⟩, .string ⟨#[]⟩, .string ⟨#[]⟩, .slice none 0 0, .slice none 0 0] 35)).alloc (.cells #[.nilFunc, .pointer none] 99)).alloc (.cells #[.pointer (some ⟨w.heap.size + 1 + 1 + 1, 0, none⟩)] 95)).cell? ⟨w.heap.size + 1 + 1 + 1, 0, none⟩ = some .nilFunc := by rw [cell_of_row _ _ _ _ _ _ E5]; rfl
 have hsz : (((((w.alloc (.cells #[.int .i64 t.kd, .string t.nm.1, .string t.nm.2, x0, x1, x2, x3, x4, x5, x6, .slice A t.args.length c] 35)).alloc (.cells #[.slice A2 s.length c2] 50)).alloc (.cells #[.int .i64 0, .string ⟨#[]⟩, .string ⟨#[]⟩, .int .i64 0, .string ⟨#[]⟩, .string ⟨#[]⟩, .string ⟨#[]⟩, .string ⟨#[]⟩, .string ⟨#[]⟩, .slice none 0 0, .slice none 0 0] 35)).alloc (.cells #[.nilFunc, .pointer none] 99)).alloc (.cells #[.pointer (some ⟨w.heap.size + 1 + 1 + 1, 0, none⟩)] 95)).heap.size = w.heap.size + 5 := by simp
 have e6 := setCell_eq_setRow (((((w.alloc (.cells #[.int .i64 t.kd, .string t.nm.1, .string t.nm.2, x0, x1, x2, x3, x4, x5, x6, .slice A t.args.length c] 35)).alloc (.cells #[.slice A2 s.length c2] 50)).alloc (.cells #[.int .i64 0, .string ⟨#[]⟩, .string ⟨#[]⟩, .int .i64 0, .string ⟨#[]⟩, .string ⟨#[]⟩, .string ⟨#[]⟩, .string ⟨#[]⟩, .string ⟨#[]⟩, .slice none 0 0, .slice none 0 0] 35)).alloc (.cells #[.nilFunc, .pointer none] 99)).alloc (.cells #[.pointer (some ⟨w.heap.size + 1 + 1 + 1, 0, none⟩)] 95)) (w.heap.size + 1 + 1 + 1) 0 _ 99 (0, 0) (.func (.func 76) #[] #[.pointer (some ⟨w.heap.size + 1 + 1 + 1 + 1, 0, none⟩), .pointer (some ⟨w.heap.size + 1, 0, none⟩)]) E5
 have ho : ∀ q, q ≠ w.heap.size + 1 + 1 + 1 → ((((((w.alloc (.cells #[.int .i64 t.kd, .string t.nm.1, .string t.nm.2, x0, x1, x2, x3, x4, x5, x6, .slice A t.args.length c] 35)).alloc (.cells #[.slice A2 s.length c2] 50)).alloc (.cells #[.int .i64 0, .string ⟨#[]⟩, .string ⟨#[]⟩, .int .i64 0, .string ⟨#[]⟩, .string ⟨#[]⟩, .string ⟨#[]⟩, .string ⟨#[]⟩, .string ⟨#[]⟩, .slice none 0 0, .slice none 0 0] 35)).alloc (.cells #[.nilFunc, .pointer none] 99)).alloc (.cells #[.pointer (some ⟨w.heap.size + 1 + 1 + 1, 0, none⟩)] 95)).setCell ⟨w.heap.size + 1 + 1 + 1, 0, none⟩ (.func (.func 76) #[] #[.pointer (some ⟨w.heap.size + 1 + 1 + 1 + 1, 0, none⟩), .pointer (some ⟨w.heap.size + 1, 0, none⟩)])).heap[q]? = (((((w.alloc (.cells #[.int .i64 t.kd, .string t.nm.1, .string t.nm.2, x0, x1, x2, x3, x4, x5, x6, .slice A t.args.length c] 35)).alloc (.cells #[.slice A2 s.length c2] 50)).alloc (.cells #[.int .i64 0, .string ⟨#[]⟩, .string ⟨#[]⟩, .int .i64 0, .string ⟨#[]⟩, .string ⟨#[]⟩, .string ⟨#[]⟩, .string ⟨#[]⟩, .string ⟨#[]⟩, .slice none 0 0, .slice none 0 0] 35)).alloc (.cells #[.nilFunc, .pointer none] 99)).alloc (.cells #[.pointer (some ⟨w.heap.size + 1 + 1 + 1, 0, none⟩)] 95)).heap[q]? := fun q hq => by rw [e6]; exact setRow_other _ _ _ _ hq
 have E6 : EdAt ((((((w.alloc (.cells #[.int .i64 t.kd, .string t.nm.1, .string t.nm.2, x0, x1, x2, x3, x4, x5, x6, .slice A t.args.length c] 35)).alloc (.cells #[.slice A2 s.length c2] 50)).alloc (.cells #[.int .i64 0, .string ⟨#[]⟩, .string ⟨#[]⟩, .int .i64 0, .string ⟨#[]⟩, .string ⟨#[]⟩, .string ⟨#[]⟩, .string ⟨#[]⟩, .string ⟨#[]⟩, .slice none 0 0, .slice none 0 0] 35)).alloc (.cells #[.nilFunc, .pointer none] 99)).alloc (.cells #[.pointer (some ⟨w.heap.size + 1 + 1 + 1, 0, none⟩)] 95)).setCell ⟨w.heap.size + 1 + 1 + 1, 0, none⟩ (.func (.func 76) #[] #[.pointer (some ⟨w.heap.size + 1 + 1 + 1 + 1, 0, none⟩), .pointer (some ⟨w.heap.size + 1, 0, none⟩)])) (w.heap.size + 1 + 1 + 1) 76 #[.pointer (some ⟨w.heap.size + 1 + 1 + 1 + 1, 0, none⟩), .pointer (some ⟨w.heap.size + 1, 0, none⟩)] := by
  unfold EdAt
  rw [e6]
  exact setRow_heap _ _ _ _ _ _ E5
 have hA6 : Below w.heap.size w ((((((w.alloc (.cells #[.int .i64 t.kd, .string t.nm.1, .string t.nm.2, x0, x1, x2, x3, x4, x5, x6, .slice A t.args.length c] 35)).alloc (.cells #[.slice A2 s.length c2] 50)).alloc (.cells #[.int .i64 0, .string ⟨#[]⟩, .string ⟨#[]⟩, .int .i64 0, .string ⟨#[]⟩, .string ⟨#[]⟩, .string ⟨#[]⟩, .string ⟨#[]⟩, .string ⟨#[]⟩, .slice none 0 0, .slice none 0 0] 35)).alloc (.cells #[.nilFunc, .pointer none] 99)).alloc (.cells #[.pointer (some ⟨w.heap.size + 1 + 1 + 1, 0, none⟩)] 95)).setCell ⟨w.heap.size + 1 + 1 + 1, 0, none⟩ (.func (.func 76) #[] #[.pointer (some ⟨w.heap.size + 1 + 1 + 1 + 1, 0, none⟩), .pointer (some ⟨w.heap.size + 1, 0, none⟩)])) := by rw [e6]; exact below_setRowO hA5 (by omega) _
 have hsz6 : ((((((w.alloc (.cells #[.int .i64 t.kd, .string t.nm.1, .string t.nm.2, x0, x1, x2, x3, x4, x5, x6, .slice A t.args.length c] 35)).alloc (.cells #[.slice A2 s.length c2] 50)).alloc (.cells #[.int .i64 0, .string ⟨#[]⟩, .string ⟨#[]⟩, .int .i64 0, .string ⟨#[]⟩, .string ⟨#[]⟩, .string ⟨#[]⟩, .string ⟨#[]⟩, .string ⟨#[]⟩, .slice none 0 0, .slice none 0 0] 35)).alloc (.cells #[.nilFunc, .pointer none] 99)).alloc (.cells #[.pointer (some ⟨w.heap.size + 1 + 1 + 1, 0, none⟩)] 95)).setCell ⟨w.heap.size + 1 + 1 + 1, 0, none⟩ (.func (.func 76) #[] #[.pointer (some ⟨w.heap.size + 1 + 1 + 1 + 1, 0, none⟩), .pointer (some ⟨w.heap.size + 1, 0, none⟩)])).heap.size = w.heap.size + 5 := by rw [e6, size_setRow]; exact hsz
 have T0 : TB ((((((w.alloc (.cells #[.int .i64 t.kd, .string t.nm.1, .string t.nm.2, x0, x1, x2, x3, x4, x5, x6, .slice A t.args.length c] 35)).alloc (.cells #[.slice A2 s.length c2] 50)).alloc (.cells #[.int .i64 0, .string ⟨#[]⟩, .string ⟨#[]⟩, .int .i64 0, .string ⟨#[]⟩, .string ⟨#[]⟩, .string ⟨#[]⟩, .string ⟨#[]⟩, .string ⟨#[]⟩, .slice none 0 0, .slice none 0 0] 35)).alloc (.cells #[.nilFunc, .pointer none] 99)).alloc (.cells #[.pointer (some ⟨w.heap.size + 1 + 1 + 1, 0, none⟩)] 95)).setCell ⟨w.heap.size + 1 + 1 + 1, 0, none⟩ (.func (.func 76) #[] #[.pointer (some ⟨w.heap.size + 1 + 1 + 1 + 1, 0, none⟩), .pointer (some ⟨w.heap.size + 1, 0, none⟩)])) w.heap.size [.int .i64 t.kd, .string t.nm.1, .string t.nm.2, x0, x1, x2, x3, x4, x5, x6, .slice A t.args.length c] := (ho _ (by omega)).trans ((Below.heap_alloc _ _ _ (by simp <;> omega)).trans ((Below.heap_alloc _ _ _ (by simp <;> omega)).trans ((Below.heap_alloc _ _ _ (by simp <;> omega)).trans ((Below.heap_alloc _ _ _ (by simp)).trans (heap_alloc_new w _)))))
 have T1 : ((((((w.alloc (.cells #[.int .i64 t.kd, .string t.nm.1, .string t.nm.2, x0, x1, x2, x3, x4, x5, x6, .slice A t.args.length c] 35)).alloc (.cells #[.slice A2 s.length c2] 50)).alloc (.cells #[.int .i64 0, .string ⟨#[]⟩, .string ⟨#[]⟩, .int .i64 0, .string ⟨#[]⟩, .string ⟨#[]⟩, .string ⟨#[]⟩, .string ⟨#[]⟩, .string ⟨#[]⟩, .slice none 0 0, .slice none 0 0] 35)).alloc (.cells #[.nilFunc, .pointer none] 99)).alloc (.cells #[.pointer (some ⟨w.heap.size + 1 + 1 + 1, 0, none⟩)] 95)).setCell ⟨w.heap.size + 1 + 1 + 1, 0, none⟩ (.func (.func 76) #[] #[.pointer (some ⟨w.heap.size + 1 + 1 + 1 + 1, 0, none⟩), .pointer (some ⟨w.heap.size + 1, 0, none⟩)])).heap[w.heap.size + 1]? = some (.cells #[.slice A2 s.length c2] 50 (0, 0)) := (ho _ (by omega)).trans ((Below.heap_alloc _ _ _ (by simp <;> omega)).trans ((Below.heap_alloc _ _ _ (by simp <;> omega)).trans ((Below.heap_alloc _ _ _ (by simp)).trans (heap_new_at (by simp)))))
 have T2 : TB ((((((w.alloc (.cells #[.int .i64 t.kd, .string t.nm.1, .string t.nm.2, x0, x1, x2, x3, x4, x5, x6, .slice A t.args.length c] 35)).alloc (.cells #[.slice A2 s.length c2] 50)).alloc (.cells #[.int .i64 0, .string ⟨#[]⟩, .string ⟨#[]⟩, .int .i64 0, .string ⟨#[]⟩, .string ⟨#[]⟩, .string ⟨#[]⟩, .string ⟨#[]⟩, .string ⟨#[]⟩, .slice none 0 0, .slice none 0 0] 35)).alloc (.cells #[.nilFunc, .pointer none] 99)).alloc (.cells #[.pointer (some ⟨w.heap.size + 1 + 1 + 1, 0, none⟩)] 95)).setCell ⟨w.heap.size + 1 + 1 + 1, 0, none⟩ (.func (.func 76) #[] #[.pointer (some ⟨w.heap.size + 1 + 1 + 1 + 1, 0, none⟩), .pointer (some ⟨w.heap.size + 1, 0, none⟩)])) (w.heap.size + 1 + 1) zT := (ho _ (by omega)).trans ((Below.heap_alloc _ _ _ (by simp <;> omega)).trans ((Below.heap_alloc _ _ _ (by simp)).trans (heap_new_at (by simp))))
 have T4 : ((((((w.alloc (.cells #[.int .i64 t.kd, .string t.nm.1, .string t.nm.2, x0, x1, x2, x3, x4, x5, x6, .slice A t.args.length c] 35)).alloc (.cells #[.slice A2 s.length c2] 50)).alloc (.cells #[.int .i64 0, .string ⟨#[]⟩, .string ⟨#[]⟩, .int .i64 0, .string ⟨#[]⟩, .string ⟨#[]⟩, .string ⟨#[]⟩, .string ⟨#[]⟩, .string ⟨#[]⟩, .slice none 0 0, .slice none 0 0] 35)).alloc (.cells #[.nilFunc, .pointer none] 99)).alloc (.cells #[.pointer (some ⟨w.heap.size + 1 + 1 + 1, 0, none⟩)] 95)).setCell ⟨w.heap.size + 1 + 1 + 1, 0, none⟩ (.func (.func 76) #[] #[.pointer (some ⟨w.heap.size + 1 + 1 + 1 + 1, 0, none⟩), .pointer (some ⟨w.heap.size + 1, 0, none⟩)])).heap[w.heap.size + 1 + 1 + 1 + 1]? = some (.cells #[.pointer (some ⟨w.heap.size + 1 + 1 + 1, 0, none⟩)] 95 (0, 0)) := (ho _ (by omega)).trans (heap_new_at (by simp))
 have hce : ((((((w.alloc (.cells #[.int .i64 t.kd, .string t.nm.1, .string t.nm.2, x0, x1, x2, x3, x4, x5, x6, .slice A t.args.length c] 35)).alloc (.cells #[.slice A2 s.length c2] 50)).alloc (.cells #[.int .i64 0, .string ⟨#[]⟩, .string ⟨#[]⟩, .int .i64 0, .string ⟨#[]⟩, .string ⟨#[]⟩, .string ⟨#[]⟩, .string ⟨#[]⟩, .string ⟨#[]⟩, .slice none 0 0, .slice none 0 0] 35)).alloc (.cells #[.nilFunc, .pointer none] 99)).alloc (.cells #[.pointer (some ⟨w.heap.size + 1 + 1 + 1, 0, none⟩)] 95)).setCell ⟨w.heap.size + 1 + 1 + 1, 0, none⟩ (.func (.func 76) #[] #[.pointer (some ⟨w.heap.size + 1 + 1 + 1 + 1, 0, none⟩), .pointer (some ⟨w.heap.size + 1, 0, none⟩)])).cell? ⟨w.heap.size + 1 + 1 + 1 + 1, 0, none⟩ = some (.pointer (some ⟨w.heap.size + 1 + 1 + 1, 0, none⟩)) := by rw [cell_of_row _ _ _ _ _ _ T4]; rfl
 have hcs : ((((((w.alloc (.cells #[.int .i64 t.kd, .string t.nm.1, .string t.nm.2, x0, x1, x2, x3, x4, x5, x6, .slice A t.args.length c] 35)).alloc (.cells #[.slice A2 s.length c2] 50)).alloc (.cells #[.int .i64 0, .string ⟨#[]⟩, .string ⟨#[]⟩, .int .i64 0, .string ⟨#[]⟩, .string ⟨#[]⟩, .string ⟨#[]⟩, .string ⟨#[]⟩, .string ⟨#[]⟩, .slice none 0 0, .slice none 0 0] 35)).alloc (.cells #[.nilFunc, .pointer none] 99)).alloc (.cells #[.pointer (some ⟨w.heap.size + 1 + 1 + 1, 0, none⟩)] 95)).setCell ⟨w.heap.size + 1 + 1 + 1, 0, none⟩ (.func (.func 76) #[] #[.pointer (some ⟨w.heap.size + 1 + 1 + 1 + 1, 0, none⟩), .pointer (some ⟨w.heap.size + 1, 0, none⟩)])).cell? ⟨w.heap.size + 1, 0, none⟩ = some (.slice A2 s.length c2) := by rw [cell_of_row _ _ _ _ _ _ T1]; rfl
 have C : SubC ((((((w.alloc (.cells #[.int .i64 t.kd, .string t.nm.1, .string t.nm.2, x0, x1, x2, x3, x4, x5, x6, .slice A t.args.length c] 35)).alloc (.cells #[.slice A2 s.length c2] 50)).alloc (.cells #[.int .i64 0, .string ⟨#[]⟩, .string ⟨#[]⟩, .int .i64 0, .string ⟨#[]⟩, .string ⟨#[]⟩, .string ⟨#[]⟩, .string ⟨#[]⟩, .string ⟨#[]⟩, .slice none 0 0, .slice none 0 0] 35)).alloc (.cells #[.nilFunc, .pointer none] 99)).alloc (.cells #[.pointer (some ⟨w.heap.size + 1 + 1 + 1, 0, none⟩)] 95)).setCell ⟨w.heap.size + 1 + 1 + 1, 0, none⟩ (.func (.func 76) #[] #[.pointer (some ⟨w.heap.size + 1 + 1 + 1 + 1, 0, none⟩), .pointer (some ⟨w.heap.size + 1, 0, none⟩)])) S (w.heap.size + 1 + 1 + 1) (w.heap.size + 1 + 1 + 1 + 1) (w.heap.size + 1) s (.slice A2 s.length c2) := ⟨E6, hce, hcs, hsv.below hS hA6, hS.later hA6.size⟩
 have WHC := hI (wholeE 76 _ (subT s) (chS s) t (w.heap.size + 1 + 1 + 1) _ ((((((w.alloc (.cells #[.int .i64 t.kd, .string t.nm.1, .string t.nm.2, x0, x1, x2, x3, x4, x5, x6, .slice A t.args.length c] 35)).alloc (.cells #[.slice A2 s.length c2] 50)).alloc (.cells #[.int .i64 0, .string ⟨#[]⟩, .string ⟨#[]⟩, .int .i64 0, .string ⟨#[]⟩, .string ⟨#[]⟩, .string ⟨#[]⟩, .string ⟨#[]⟩, .string ⟨#[]⟩, .slice none 0 0, .slice none 0 0] 35)).alloc (.cells #[.nilFunc, .pointer none] 99)).alloc (.cells #[.pointer (some ⟨w.heap.size + 1 + 1 + 1, 0, none⟩)] 95)).setCell ⟨w.heap.size + 1 + 1 + 1, 0, none⟩ (.func (.func 76) #[] #[.pointer (some ⟨w.heap.size + 1 + 1 + 1 + 1, 0, none⟩), .pointer (some ⟨w.heap.size + 1, 0, none⟩)])) S C.hS E6 (h.below hS hA6) hn (sub_hcf _ _) (fun W b k cs hw hq => subC s _ _ _ _ S hs t W b k cs (C.keep hw) hn hq))
 have c5 : (((((w.alloc (.cells #[.int .i64 t.kd, .string t.nm.1, .string t.nm.2, x0, x1, x2, x3, x4, x5, x6, .slice A t.args.length c] 35)).alloc (.cells #[.slice A2 s.length c2] 50)).alloc (.cells #[.int .i64 0, .string ⟨#[]⟩, .string ⟨#[]⟩, .int .i64 0, .string ⟨#[]⟩, .string ⟨#[]⟩, .string ⟨#[]⟩, .string ⟨#[]⟩, .string ⟨#[]⟩, .slice none 0 0, .slice none 0 0] 35)).alloc (.cells #[.nilFunc, .pointer none] 99)).alloc (.cells #[.pointer (some ⟨w.heap.size + 1 + 1 + 1, 0, none⟩)] 95)).cell? ⟨w.heap.size + 1 + 1 + 1 + 1, 0, none⟩ = some (.pointer (some ⟨w.heap.size + 1 + 1 + 1, 0, none⟩)) := by rw [cell_of_row _ _ _ _ _ _ (heap_new_at (by simp))]; rfl
 have HT0 := hI T0
 have HT2 := hI T2
 have HA6 := hI hA6
 have HSZ6 := hI hsz6
 have HCE := hI hce
 have HS := hI hS
 have O0 : Hid (One11 [.int .i64 t.kd, .string t.nm.1, .string t.nm.2, x0, x1, x2, x3, x4, x5, x6, .slice A t.args.length c]) := h.o11
 generalize subT s t = u at WHC ⊢
 unfold vTm at WHC ⊢
 clear h hsv hA5 E5 hsz e6 ho E6 hA6 hsz6 T0 T1 T2 T4 hce hcs C hn hs hS
 go_enter Tryz.func33, Tryz.ntmps33
 go_upto_region 2 with fail
 generalize (((((w.alloc (.cells #[.int .i64 t.kd, .string t.nm.1, .string t.nm.2, x0, x1, x2, x3, x4, x5, x6, .slice A t.args.length c] 35)).alloc (.cells #[.slice A2 s.length c2] 50)).alloc (.cells #[.int .i64 0, .string ⟨#[]⟩, .string ⟨#[]⟩, .int .i64 0, .string ⟨#[]⟩, .string ⟨#[]⟩, .string ⟨#[]⟩, .string ⟨#[]⟩, .string ⟨#[]⟩, .slice none 0 0, .slice none 0 0] 35)).alloc (.cells #[.nilFunc, .pointer none] 99)).alloc (.cells #[.pointer (some ⟨w.heap.size + 1 + 1 + 1, 0, none⟩)] 95)) = Y5 at *
 go_upto_region 3 with fail
 generalize Y5.setCell ⟨w.heap.size + 1 + 1 + 1, 0, none⟩ (.func (.func 76) #[] #[.pointer (some ⟨w.heap.size + 1 + 1 + 1 + 1, 0, none⟩), .pointer (some ⟨w.heap.size + 1, 0, none⟩)]) = Y at *
 have hce := HCE.out
 clear e0 f0 c5
 go_wp2_with ((with_reducible refine loadTb (cs := [.int .i64 t.kd, .string t.nm.1, .string t.nm.2, x0, x1, x2, x3, x4, x5, x6, .slice A t.args.length c]) (.tmp 2) ?_ ?_ ?_ HT0.out ?_ ?_); rfl; rfl; rfl; rfl)
 refine WHC.out.mono ?_
 rintro e w7 ⟨cs7, rfl, h7, hb7⟩
 have O7 := hI h7.o11
 have HB := hI (HT2.out.keep hb7)
 have H7 : Hid (TmAt w7 (Upto w w7 S) u cs7) := h7.more fun q hq => up3 HA6.out (Below.refl _ _) q hq
 have HW := hI (HA6.out.trans (hb7.mono HA6.out.size))
 clear h7 hb7 hce
 go_wp2_with ((with_reducible refine storeTb (cs := cs7) (.tmp 4) (.tmp 14) ?_ ?_ ?_ ?_ HB.out ?_ ?_ ?_ ?_); rfl; rfl; rfl; rfl; rfl; exact O7.out.1; exact O7.out.2)
 exact retTb rfl rfl (HB.out.set _) O7.out.1 ⟨_, rfl, TmAt.boxed H7.out HB.out.nb _, below_setRowO HW.out (by omega) _⟩
theorem zT_one : ∀ u ∈ zT, u.oneCell' = true := by simp [zT, Value.oneCell']
def RetA (w : World) (S : Nat → Prop) (R : Option Tm) (e : Ending) (w' : World) : Prop := match R with
 | some t => RetTB w S t true e w'
 | none => e = .returned (.tuple #[vTm zT, .bool false]) ∧ Below w.heap.size w w'
theorem assignedR (s : List (Nm × Tm)) (sv : Value) (S : Nat → Prop) (x : Nm) (w : World) (hS : In S w) (hsv : AsV w S s sv) (hs : s.length ≤ 100000) :
 Calls Tryz.prog 79 #[sv, .agg #[.string x.1, .string x.2]] w (RetA w S (findA s x)) := by
 obtain ⟨A, c, rfl, hlc, hsA⟩ := hsv
 have hA : Below w.heap.size w ((w.alloc (.cells #[.string x.1, .string x.2] 23)).alloc (.cells #[.int .i64 0, .string ⟨#[]⟩, .string ⟨#[]⟩, .int .i64 0, .string ⟨#[]⟩, .string ⟨#[]⟩, .string ⟨#[]⟩, .string ⟨#[]⟩, .string ⟨#[]⟩, .slice none 0 0, .slice none 0 0] 35)) := Below.alloc (Below.alloc (Below.refl _ _) (Nat.le_refl _) _) (by simp) _
 have B4 : TB ((w.alloc (.cells #[.string x.1, .string x.2] 23)).alloc (.cells #[.int .i64 0, .string ⟨#[]⟩, .string ⟨#[]⟩, .int .i64 0, .string ⟨#[]⟩, .string ⟨#[]⟩, .string ⟨#[]⟩, .string ⟨#[]⟩, .string ⟨#[]⟩, .slice none 0 0, .slice none 0 0] 35)) (w.heap.size + 1) zT := (heap_new_at (by simp))
 have B3 : ((w.alloc (.cells #[.string x.1, .string x.2] 23)).alloc (.cells #[.int .i64 0, .string ⟨#[]⟩, .string ⟨#[]⟩, .int .i64 0, .string ⟨#[]⟩, .string ⟨#[]⟩, .string ⟨#[]⟩, .string ⟨#[]⟩, .string ⟨#[]⟩, .slice none 0 0, .slice none 0 0] 35)).heap[w.heap.size]? = some (.cells #[.string x.1, .string x.2] 23 (0, 0)) := (Below.heap_alloc _ _ _ (by simp)).trans (heap_alloc_new w _)
 have n0 : ((w.alloc (.cells #[.string x.1, .string x.2] 23)).alloc (.cells #[.int .i64 0, .string ⟨#[]⟩, .string ⟨#[]⟩, .int .i64 0, .string ⟨#[]⟩, .string ⟨#[]⟩, .string ⟨#[]⟩, .string ⟨#[]⟩, .string ⟨#[]⟩, .slice none 0 0, .slice none 0 0] 35)).cell? ⟨w.heap.size, 0, none⟩ = some (.string x.1) := by rw [cell_of_row _ _ _ _ _ _ B3]; rfl
 have n1 : ((w.alloc (.cells #[.string x.1, .string x.2] 23)).alloc (.cells #[.int .i64 0, .string ⟨#[]⟩, .string ⟨#[]⟩, .int .i64 0, .string ⟨#[]⟩, .string ⟨#[]⟩, .string ⟨#[]⟩, .string ⟨#[]⟩, .string ⟨#[]⟩, .slice none 0 0, .slice none 0 0] 35)).cell? ⟨w.heap.size, 1, none⟩ = some (.string x.2) := by rw [cell_of_row _ _ _ _ _ _ B3]; rfl
 have hlN : w.heap.size < ((w.alloc (.cells #[.string x.1, .string x.2] 23)).alloc (.cells #[.int .i64 0, .string ⟨#[]⟩, .string ⟨#[]⟩, .int .i64 0, .string ⟨#[]⟩, .string ⟨#[]⟩, .string ⟨#[]⟩, .string ⟨#[]⟩, .string ⟨#[]⟩, .slice none 0 0, .slice none 0 0] 35)).heap.size := by simp <;> omega
 have HSA := hI hsA
 have HA := hI hA
 have HS := hI hS
 obtain ⟨R, hR⟩ : ∃ R, findA s x = R := ⟨_, rfl⟩
 rw [hR]
 obtain ⟨L, hL⟩ : ∃ L, s.length = L := ⟨_, rfl⟩
 rw [hL] at hs hlc ⊢
 have HL := hI hL
 have HN := hI (And.intro n0 (And.intro n1 hlN))
 have h0 : Hid (FdW (w.heap.size + 1) ((w.alloc (.cells #[.string x.1, .string x.2] 23)).alloc (.cells #[.int .i64 0, .string ⟨#[]⟩, .string ⟨#[]⟩, .int .i64 0, .string ⟨#[]⟩, .string ⟨#[]⟩, .string ⟨#[]⟩, .string ⟨#[]⟩, .string ⟨#[]⟩, .slice none 0 0, .slice none 0 0] 35)) ((w.alloc (.cells #[.string x.1, .string x.2] 23)).alloc (.cells #[.int .i64 0, .string ⟨#[]⟩, .string ⟨#[]⟩, .int .i64 0, .string ⟨#[]⟩, .string ⟨#[]⟩, .string ⟨#[]⟩, .string ⟨#[]⟩, .string ⟨#[]⟩, .slice none 0 0, .slice none 0 0] 35)) s x 0 R) := ⟨by rw [List.drop_zero]; exact hR, Below.refl _ _, B4⟩
 clear hsA hA hS hR hL n0 n1 B4 B3 hlN
 go_enter Tryz.func79, Tryz.ntmps79
 go_wp2_with fail
 generalize ((w.alloc (.cells #[.string x.1, .string x.2] 23)).alloc (.cells #[.int .i64 0, .string ⟨#[]⟩, .string ⟨#[]⟩, .int .i64 0, .string ⟨#[]⟩, .string ⟨#[]⟩, .string ⟨#[]⟩, .string ⟨#[]⟩, .string ⟨#[]⟩, .slice none 0 0, .slice none 0 0] 35)) = Y at *
 go_loopw [6] (fun v wr => ∃ (i : Nat), i ≤ L ∧ v = .int .i64 (i : Int) ∧ Hid (FdW (w.heap.size + 1) Y wr s x i R)) (fun v _ => L - (intOf v).toNat)
 case atStart => exact ⟨0, Nat.zero_le _, rfl, h0⟩
 case round =>
  clear h0
  obtain ⟨i, hi, rfl, hE⟩ := hrel
  obtain ⟨wo, rfl⟩ : ∃ wo : World, wo = wr := ⟨_, rfl⟩
  obtain ⟨hf, hb0, hg⟩ := hE.out
  clear hE
  have c0 := (hb0.cell (p := ⟨w.heap.size, 0, none⟩) HN.out.2.2).trans HN.out.1
  have c1 := (hb0.cell (p := ⟨w.heap.size, 1, none⟩) HN.out.2.2).trans HN.out.2.1
  by_cases hlt : i < L
  · have hil : i < s.length := by rw [HL.out]; exact hlt
    obtain ⟨b1, o1, rfl, hS1, hcell⟩ := HSA.out (by omega)
    obtain ⟨cs1, ht1, hc1⟩ := hcell i hil
    obtain ⟨y0, y1, y2, y3, y4, y5, y6, A1, c1', rfl, hv1, ha1⟩ := ht1.eleven
    have hlb1 : b1 < w.heap.size := HS.out b1 hS1.1
    have LF : ∀ j u, (Value.string s[i].1.1 :: Value.string s[i].1.2 :: [Value.int .i64 s[i].2.kd, .string s[i].2.nm.1, .string s[i].2.nm.2, y0, y1, y2, y3, y4, y5, y6, .slice A1 s[i].2.args.length c1'])[j]? = some u → wo.cell? ⟨b1, o1 + i * 13 + j, none⟩ = some u := fun j u hj => (hb0.cell (p := ⟨b1, o1 + i * 13 + j, none⟩) (Nat.lt_of_lt_of_le hlb1 HA.out.size)).trans ((HA.out.cell (p := ⟨b1, o1 + i * 13 + j, none⟩) hlb1).trans (hc1 j u hj))
    have k0 := LF 0 _ rfl
    have k1 := LF 1 _ rfl
    have k2 := LF 2 _ rfl
    have k3 := LF 3 _ rfl
    have k4 := LF 4 _ rfl
    have k5 := LF 5 _ rfl
    have k6 := LF 6 _ rfl
    have k7 := LF 7 _ rfl
    have k8 := LF 8 _ rfl
    have k9 := LF 9 _ rfl
    have k10 := LF 10 _ rfl
    have k11 := LF 11 _ rfl
    have k12 := LF 12 _ rfl
    rw [Nat.add_zero] at k0
    have step := findA_drop hil x
    rw [hf] at step
    have HT1 := hI ht1
    have O1 := hI ht1.o11
    have HB := hI hb0
    have HG := hI hg
    unfold eqN at step
    clear hf hcell hc1 LF hb0 hg ha1 hv1
    cases h1 : (s[i].1.1.toList == x.1.toList) with
    | false =>
     rw [h1] at step
     have HST : Hid (findA (s.drop (i + 1)) x = R) := (show findA (s.drop (i + 1)) x = R from by rw [step]; simp)
     clear step
     go_wp2_with fail
     go_quiet (fail)
     go_wp2
     go_roundw
     case rel => exact ⟨i + 1, by omega, by go_num, ⟨HST.out, HB.out.trans ((below_dn _ _).mono HB.out.size), HG.out.keep (below_dn _ _)⟩⟩
     case measure => simp [intOf]; omega
    | true =>
     cases h2 : (s[i].1.2.toList == x.2.toList) with
     | false =>
      rw [h1, h2] at step
      have HST : Hid (findA (s.drop (i + 1)) x = R) := (show findA (s.drop (i + 1)) x = R from by rw [step]; simp)
      clear step
      go_wp2_with fail
      go_quiet (fail)
      go_wp2
      go_roundw
      case rel => exact ⟨i + 1, by omega, by go_num, ⟨HST.out, HB.out.trans ((below_dn _ _).mono HB.out.size), HG.out.keep (below_dn _ _)⟩⟩
      case measure => simp [intOf]; omega
     | true =>
      rw [h1, h2] at step
      have hR : R = some s[i].2 := by rw [step]; simp
      subst hR
      clear step
      go_wp2_with fail
      go_quiet (fail)
      change (wo.drewN nq).cell? _ = _ at k2 k3 k4 k5 k6 k7 k8 k9 k10 k11 k12
      have HBn : Hid (Below Y.heap.size Y (wo.drewN nq)) := HB.out.trans ((below_dn _ _).mono HB.out.size)
      have HGn : Hid (TB (wo.drewN nq) (w.heap.size + 1) zT) := HG.out.keep (below_dn _ _)
      clear c0 c1 k0 k1 HB HG
      generalize wo.drewN nq = wn at *
      have HTn := hI (((HT1.out.below HS.out HA.out).below (fun b hb => Nat.lt_of_lt_of_le (HS.out b hb) HA.out.size) HBn.out).more fun b hb => (show Upto w wn S b from .inl hb))
      go_wp2_with ((with_reducible refine storeTb (cs := [Value.int .i64 s[i].2.kd, .string s[i].2.nm.1, .string s[i].2.nm.2, y0, y1, y2, y3, y4, y5, y6, .slice A1 s[i].2.args.length c1']) (.tmp 4) (.tmp 24) ?_ ?_ ?_ ?_ HGn.out ?_ ?_ ?_ ?_); rfl; rfl; rfl; rfl; rfl; rfl; exact O1.out.2)
      exact retTbx rfl rfl rfl (HGn.out.set _) rfl (RetTB.mk (below_setRowO (HA.out.trans (HBn.out.mono HA.out.size)) (by omega) _) (TmAt.boxed HTn.out HGn.out.nb _))
  · have hiL : i = L := by omega
    have hn2 : ¬ (i : Int) < L := by omega
    have hR : R = none := by
     rw [← hf, hiL, ← HL.out, List.drop_length]; rfl
    subst hR
    have HB := hI hb0
    have HG := hI hg
    clear hf hb0 hg hiL hlt c0 c1
    go_wp2_with ((with_reducible refine storeTb (cs := zT) (.tmp 4) (.tmp 25) ?_ ?_ ?_ ?_ HG.out ?_ ?_ ?_ ?_); rfl; rfl; rfl; rfl; rfl; rfl; exact zT_one)
    exact retTbx rfl rfl rfl (HG.out.set _) rfl ⟨rfl, below_setRowO (HA.out.trans (HB.out.mono HA.out.size)) (by omega) _⟩
theorem subAllR (s : List (Nm × Tm)) (sv : Value) (l : List Tm) (A : Option Addr) (c : Nat) (w : World) (S : Nat → Prop) (hS : In S w) (ha : ArgsAt w S l A c) (hn : l.length ≤ 3000)
 (ke : ∀ x ∈ l, ∀ (W : World) (cs : List Value), Below w.heap.size w W → TmAt W S x cs → Calls Tryz.prog 35 #[vTm cs, sv] W (RetT W S (subT s x))) :
 Calls Tryz.prog 80 #[.slice A l.length c, sv] w (RetMk w S (l.map (subT s))) := by
 obtain ⟨L, hL⟩ : ∃ L, l.length = L := ⟨_, rfl⟩
 have HA := hI ha
 have HS := hI hS
 have HI : Hid (∀ i (hi : i < l.length), ∀ (W : World) (cs : List Value), Below w.heap.size w W → TmAt W S l[i] cs → Calls Tryz.prog 35 #[vTm cs, sv] W (RetT W S (subT s l[i]))) := fun i hi W cs hb h => ke _ (List.getElem_mem hi) W cs hb h
 have HQ : Hid (∀ wo v xs, MkT S w wo ((l.take L).map (subT s)) v xs → RetMk w S (l.map (subT s)) (.returned v) wo) := fun wo v xs h => ⟨v, xs, rfl, by rwa [← hL, List.take_length] at h⟩
 have HTK : Hid (∀ i (hi : i < l.length), (l.take (i + 1)).map (subT s) = (l.take i).map (subT s) ++ [subT s l[i]]) := fun i hi => by rw [List.take_add_one, List.getElem?_eq_getElem hi, List.map_append]; rfl
 have HLN : Hid (∀ i, i ≤ L → ((l.take i).map (subT s)).length = i) := fun i hi => by simp; omega
 obtain ⟨i0, hi0, hz0, hz1, hz2⟩ := infoT
 have HI0 := hI hi0
 have HZ0 := hI hz0
 have HZ1 := hI hz1
 have HZ2 := hI hz2
 have h0 : Hid (MkT S w w ((l.take 0).map (subT s)) (.slice none 0 0) []) := MkT.start S w
 rw [hL] at hn ⊢
 have HL := hI hL
 clear hi0 hz0 hz1 hz2 ke ha hS hL
 go_enter Tryz.func80, Tryz.ntmps80
 go_wp2_with fail
 go_loopw [5, 6] (fun u v wr => ∃ (i : Nat) (xs : List (List Value)) (sl : Value), sl = u ∧ i ≤ L ∧ v = .int .i64 (i : Int) ∧ Hid (MkT S w wr ((l.take i).map (subT s)) sl xs)) (fun _ v _ => L - (intOf v).toNat)
 case atStart => exact ⟨0, [], _, rfl, Nat.zero_le _, rfl, h0⟩
 case round =>
  clear h0
  obtain ⟨i, xs, sl, rfl, hiL, rfl, hE⟩ := hrel
  obtain ⟨wo, rfl⟩ : ∃ wo : World, wo = wr := ⟨_, rfl⟩
  have hbel := hE.out.bel
  have hs1 := hbel.size
  by_cases hlt : i < L
  · have hil : i < l.length := by rw [HL.out]; exact hlt
    obtain ⟨b, o, cs, rfl, hP⟩ := HA.out.arg hil
    have hP' := hP.below HS.out hbel
    obtain ⟨x0, x1, x2, x3, x4, x5, x6, A1, c1, ecs, _, _, l0, l1, l2, l3, l4, l5, l6, l7, l8, l9, l10⟩ := hP'.cells
    subst ecs
    have call := hI (HI.out i hil wo _ hbel hP'.2.1)
    have hlen := HLN.out i hiL
    have htk := HTK.out i hil
    have hln1 := HLN.out (i + 1) (by omega)
    unfold vTm at call
    generalize l[i] = x at *
    clear hP hP' hbel
    go_wp2_with fail
    refine call.out.mono ?_
    rintro e w3 ⟨cs3, rfl, h3, hb3⟩
    have own3 := hI (hE.out.own3 hb3 (.cells cs3.toArray 35))
    rw [hlen] at own3
    have HSTEP : Hid (∀ v' w4, w4.ownsRow w.heap.size 35 11 v' (i + 1) (xs.flatten ++ cs3) → (w3.alloc (.cells cs3.toArray 35)).grownBy w4 sl.ownBlock → (v'.ownBlock = sl.ownBlock ∨ v'.ownBlock = some (w3.alloc (.cells cs3.toArray 35)).heap.size) → MkT S w w4 ((l.take (i + 1)).map (subT s)) v' (xs ++ [cs3])) :=
     fun v' w4 h4 hg hat => by rw [htk]; exact hE.out.step HS.out hb3 _ h3 (by rw [hlen]; exact h4) hg hat
    have hone := h3.one
    have hl3 := h3.length
    have hnews : ∀ j u, cs3[j]? = some u → (w3.alloc (.cells cs3.toArray 35)).cell? ((⟨w3.heap.size, 0, none⟩ : Addr).add j) = some u := newsO (cs := cs3.toArray) rfl
    have hs3 : w.heap.size ≤ (w3.alloc (.cells cs3.toArray 35)).heap.size := by have := hb3.size; simp; omega
    obtain ⟨y0, y1, y2, y3, y4, y5, y6, A3, c3, e3, _, _⟩ := h3.eleven
    generalize subT s x = u at *
    subst e3
    have HONE := hI hone
    have HNEWS := hI hnews
    unfold vTm
    clear l0 l1 l2 l3 l4 l5 l6 l7 l8 l9 l10 h3 hb3 call hone hnews hs1 htk hln1
    go_wp2_with (at_builtin; refine wpList_append_own_at _ rfl (.tmp 13) (.tmp 20) _ rfl w.heap.size 35 i0 _ 11 176 Tryz.underlying30 HI0.out HZ0.out HZ1.out HZ2.out rfl (by omega) sl i xs.flatten rfl own3.out ⟨w3.heap.size, 0, none⟩ 1 1 [.int .i64 u.kd, .string u.nm.1, .string u.nm.2, y0, y1, y2, y3, y4, y5, y6, .slice A3 u.args.length c3] rfl rfl HNEWS.out HONE.out (by simp only [maxLen]; omega) (by omega) hs3 ?_; intro v4 w4 hown4 hg4 hnil4 hat4; have hst := hI (HSTEP.out v4 w4 hown4 hg4 hat4); clear hown4 hg4 hnil4 hat4)
    go_roundw
    case rel => exact ⟨i + 1, _, _, rfl, by omega, by go_num, hst⟩
    case measure => simp [intOf]; omega
  · have hiL2 : i = L := by omega
    have hn : ¬ (i : Int) < L := by omega
    have hr := hI (HQ.out wo sl xs (hiL2 ▸ hE.out))
    clear hE hbel hiL2 hlt
    go_wp2
    go_ret
    exact hr.out
theorem substVarR (s : List (Nm × Tm)) (sv : Value) (S : Nat → Prop) (x : Nm) (w : World) (hS : In S w) (hsv : AsV w S s sv) (hs : s.length ≤ 100000) :
 Calls Tryz.prog 35 #[.agg #[.int .i64 1, .string x.1, .string x.2, .int .i64 0, .string ⟨#[]⟩, .string ⟨#[]⟩, .string ⟨#[]⟩, .string ⟨#[]⟩, .string ⟨#[]⟩, .slice none 0 0, .slice none 0 0], sv] w (RetT w S (subT s (.var x))) := by
 have hA : Below w.heap.size w ((w.alloc (.cells #[.int .i64 1, .string x.1, .string x.2, .int .i64 0, .string ⟨#[]⟩, .string ⟨#[]⟩, .string ⟨#[]⟩, .string ⟨#[]⟩, .string ⟨#[]⟩, .slice none 0 0, .slice none 0 0] 35)).alloc (.cells #[.int .i64 0, .string ⟨#[]⟩, .string ⟨#[]⟩, .int .i64 0, .string ⟨#[]⟩, .string ⟨#[]⟩, .string ⟨#[]⟩, .string ⟨#[]⟩, .string ⟨#[]⟩, .slice none 0 0, .slice none 0 0] 35)) := Below.alloc (Below.alloc (Below.refl _ _) (Nat.le_refl _) _) (by simp) _
 have B2 : Hid (TB ((w.alloc (.cells #[.int .i64 1, .string x.1, .string x.2, .int .i64 0, .string ⟨#[]⟩, .string ⟨#[]⟩, .string ⟨#[]⟩, .string ⟨#[]⟩, .string ⟨#[]⟩, .slice none 0 0, .slice none 0 0] 35)).alloc (.cells #[.int .i64 0, .string ⟨#[]⟩, .string ⟨#[]⟩, .int .i64 0, .string ⟨#[]⟩, .string ⟨#[]⟩, .string ⟨#[]⟩, .string ⟨#[]⟩, .string ⟨#[]⟩, .slice none 0 0, .slice none 0 0] 35)) w.heap.size [.int .i64 1, .string x.1, .string x.2, .int .i64 0, .string ⟨#[]⟩, .string ⟨#[]⟩, .string ⟨#[]⟩, .string ⟨#[]⟩, .string ⟨#[]⟩, .slice none 0 0, .slice none 0 0]) := (Below.heap_alloc _ _ _ (by simp)).trans (heap_alloc_new w _)
 have B4 : Hid (TB ((w.alloc (.cells #[.int .i64 1, .string x.1, .string x.2, .int .i64 0, .string ⟨#[]⟩, .string ⟨#[]⟩, .string ⟨#[]⟩, .string ⟨#[]⟩, .string ⟨#[]⟩, .slice none 0 0, .slice none 0 0] 35)).alloc (.cells #[.int .i64 0, .string ⟨#[]⟩, .string ⟨#[]⟩, .int .i64 0, .string ⟨#[]⟩, .string ⟨#[]⟩, .string ⟨#[]⟩, .string ⟨#[]⟩, .string ⟨#[]⟩, .slice none 0 0, .slice none 0 0] 35)) (w.heap.size + 1) zT) := heap_new_at (by simp)
 have AC : Hid (Calls Tryz.prog 79 #[sv, .agg #[.string x.1, .string x.2]] ((w.alloc (.cells #[.int .i64 1, .string x.1, .string x.2, .int .i64 0, .string ⟨#[]⟩, .string ⟨#[]⟩, .string ⟨#[]⟩, .string ⟨#[]⟩, .string ⟨#[]⟩, .slice none 0 0, .slice none 0 0] 35)).alloc (.cells #[.int .i64 0, .string ⟨#[]⟩, .string ⟨#[]⟩, .int .i64 0, .string ⟨#[]⟩, .string ⟨#[]⟩, .string ⟨#[]⟩, .string ⟨#[]⟩, .string ⟨#[]⟩, .slice none 0 0, .slice none 0 0] 35)) (RetA ((w.alloc (.cells #[.int .i64 1, .string x.1, .string x.2, .int .i64 0, .string ⟨#[]⟩, .string ⟨#[]⟩, .string ⟨#[]⟩, .string ⟨#[]⟩, .string ⟨#[]⟩, .slice none 0 0, .slice none 0 0] 35)).alloc (.cells #[.int .i64 0, .string ⟨#[]⟩, .string ⟨#[]⟩, .int .i64 0, .string ⟨#[]⟩, .string ⟨#[]⟩, .string ⟨#[]⟩, .string ⟨#[]⟩, .string ⟨#[]⟩, .slice none 0 0, .slice none 0 0] 35)) S (findA s x))) := assignedR s sv S x _ (hS.later hA.size) (hsv.below hS hA) hs
 have e : subT s (.var x) = match findA s x with
  | some t => t
  | none => .var x := by unfold subT; rfl
 rw [e]
 have k0 := TB.cell B2.out 0 _ rfl
 have k1 := TB.cell B2.out 1 _ rfl
 have k2 := TB.cell B2.out 2 _ rfl
 have hz : ((w.alloc (.cells #[.int .i64 1, .string x.1, .string x.2, .int .i64 0, .string ⟨#[]⟩, .string ⟨#[]⟩, .string ⟨#[]⟩, .string ⟨#[]⟩, .string ⟨#[]⟩, .slice none 0 0, .slice none 0 0] 35)).alloc (.cells #[.int .i64 0, .string ⟨#[]⟩, .string ⟨#[]⟩, .int .i64 0, .string ⟨#[]⟩, .string ⟨#[]⟩, .string ⟨#[]⟩, .string ⟨#[]⟩, .string ⟨#[]⟩, .slice none 0 0, .slice none 0 0] 35)).heap.size = w.heap.size + 2 := by simp
 have HZ := hI hz
 have HA := hI hA
 have HS := hI hS
 have hkk : ((1 : Int) == 3) = false := by decide
 clear hA hsv e hz hS
 go_enter Tryz.func35, Tryz.ntmps35
 cases hf : findA s x with
 | none =>
  rw [hf] at AC
  go_wp2_with fail
  generalize ((w.alloc (.cells #[.int .i64 1, .string x.1, .string x.2, .int .i64 0, .string ⟨#[]⟩, .string ⟨#[]⟩, .string ⟨#[]⟩, .string ⟨#[]⟩, .string ⟨#[]⟩, .slice none 0 0, .slice none 0 0] 35)).alloc (.cells #[.int .i64 0, .string ⟨#[]⟩, .string ⟨#[]⟩, .int .i64 0, .string ⟨#[]⟩, .string ⟨#[]⟩, .string ⟨#[]⟩, .string ⟨#[]⟩, .string ⟨#[]⟩, .slice none 0 0, .slice none 0 0] 35)) = Y at *
  refine AC.out.mono ?_
  rintro e w3 ⟨rfl, hb3⟩
  have hc := HA.out.trans (hb3.mono HA.out.size)
  have HA3 := hI hc
  have HB2 := hI (B2.out.keep hb3)
  have HB4 := hI (B4.out.keep hb3)
  have k0' := (hb3.cell (p := ⟨w.heap.size, 0, none⟩) (by have := HZ.out; show w.heap.size < _; omega)).trans k0
  clear hb3 AC k0 k1 k2 hc
  have h5 : Hid (TB (w3.alloc (.cells #[.int .i64 0, .string ⟨#[]⟩, .string ⟨#[]⟩, .int .i64 0, .string ⟨#[]⟩, .string ⟨#[]⟩, .string ⟨#[]⟩, .string ⟨#[]⟩, .string ⟨#[]⟩, .slice none 0 0, .slice none 0 0] 35)) w3.heap.size zT) := heap_alloc_new _ _
  have hb5 := below_alT w3 (.cells #[.int .i64 0, .string ⟨#[]⟩, .string ⟨#[]⟩, .int .i64 0, .string ⟨#[]⟩, .string ⟨#[]⟩, .string ⟨#[]⟩, .string ⟨#[]⟩, .string ⟨#[]⟩, .slice none 0 0, .slice none 0 0] 35)
  have HA5 := hI (HA3.out.trans (hb5.mono HA3.out.size))
  have HB25 := hI (HB2.out.keep hb5)
  have HB45 := hI (HB4.out.keep hb5)
  have k0'' := (hb5.cell (p := ⟨w.heap.size, 0, none⟩) HB2.out.lt).trans k0'
  have n4 : w.heap.size + 1 ≠ w3.heap.size := by have := HB4.out.lt; omega
  have n2 : w.heap.size ≠ w3.heap.size := by have := HB2.out.lt; omega
  have HB26 : Hid (TB ((w3.alloc (.cells #[.int .i64 0, .string ⟨#[]⟩, .string ⟨#[]⟩, .int .i64 0, .string ⟨#[]⟩, .string ⟨#[]⟩, .string ⟨#[]⟩, .string ⟨#[]⟩, .string ⟨#[]⟩, .slice none 0 0, .slice none 0 0] 35)).setRow w3.heap.size zT.toArray) w.heap.size [.int .i64 1, .string x.1, .string x.2, .int .i64 0, .string ⟨#[]⟩, .string ⟨#[]⟩, .string ⟨#[]⟩, .string ⟨#[]⟩, .string ⟨#[]⟩, .slice none 0 0, .slice none 0 0]) := HB25.out.other n2
  have HB46 : Hid (TB ((w3.alloc (.cells #[.int .i64 0, .string ⟨#[]⟩, .string ⟨#[]⟩, .int .i64 0, .string ⟨#[]⟩, .string ⟨#[]⟩, .string ⟨#[]⟩, .string ⟨#[]⟩, .string ⟨#[]⟩, .slice none 0 0, .slice none 0 0] 35)).setRow w3.heap.size zT.toArray) (w.heap.size + 1) zT) := HB45.out.other n4
  have k06 := TB.cell HB26.out 0 _ rfl
  have HA6 : Hid (Below w.heap.size w ((w3.alloc (.cells #[.int .i64 0, .string ⟨#[]⟩, .string ⟨#[]⟩, .int .i64 0, .string ⟨#[]⟩, .string ⟨#[]⟩, .string ⟨#[]⟩, .string ⟨#[]⟩, .string ⟨#[]⟩, .slice none 0 0, .slice none 0 0] 35)).setRow w3.heap.size zT.toArray)) := below_setRowO HA5.out (by have := HB2.out.lt; omega) _
  clear hb5 HB25 HB45 k0'' n4 n2 HB2 HB4 k0' HA3 HA5
  have HCF : Hid (RetT w S (.var x) (.returned (vTm [.int .i64 1, .string x.1, .string x.2, .int .i64 0, .string ⟨#[]⟩, .string ⟨#[]⟩, .string ⟨#[]⟩, .string ⟨#[]⟩, .string ⟨#[]⟩, .slice none 0 0, .slice none 0 0])) (((w3.alloc (.cells #[.int .i64 0, .string ⟨#[]⟩, .string ⟨#[]⟩, .int .i64 0, .string ⟨#[]⟩, .string ⟨#[]⟩, .string ⟨#[]⟩, .string ⟨#[]⟩, .string ⟨#[]⟩, .slice none 0 0, .slice none 0 0] 35)).setRow w3.heap.size zT.toArray).setRow (w.heap.size + 1) #[.int .i64 1, .string x.1, .string x.2, .int .i64 0, .string ⟨#[]⟩, .string ⟨#[]⟩, .string ⟨#[]⟩, .string ⟨#[]⟩, .string ⟨#[]⟩, .slice none 0 0, .slice none 0 0])) := ⟨_, rfl, tmAt_var, below_setRowO HA6.out (by omega) _⟩
  go_wp2_with (first | ((with_reducible refine storeTb (cs := zT) (.tmp 5) (.tmp 16) ?_ ?_ ?_ ?_ h5.out ?_ ?_ ?_ ?_); rfl; rfl; rfl; rfl; rfl; rfl; exact zT_one) | ((with_reducible refine loadTb (cs := [.int .i64 1, .string x.1, .string x.2, .int .i64 0, .string ⟨#[]⟩, .string ⟨#[]⟩, .string ⟨#[]⟩, .string ⟨#[]⟩, .string ⟨#[]⟩, .slice none 0 0, .slice none 0 0]) (.tmp 2) ?_ ?_ ?_ HB26.out ?_ ?_); rfl; rfl; rfl; rfl) | ((with_reducible refine storeTb (cs := [.int .i64 1, .string x.1, .string x.2, .int .i64 0, .string ⟨#[]⟩, .string ⟨#[]⟩, .string ⟨#[]⟩, .string ⟨#[]⟩, .string ⟨#[]⟩, .slice none 0 0, .slice none 0 0]) (.tmp 4) (.tmp 29) ?_ ?_ ?_ ?_ HB46.out ?_ ?_ ?_ ?_); rfl; rfl; rfl; rfl; rfl; rfl; exact (by simp [Value.oneCell'])))
  exact retTb rfl rfl (HB46.out.set _) rfl HCF.out
 | some t =>
  rw [hf] at AC
  go_wp2_with fail
  generalize ((w.alloc (.cells #[.int .i64 1, .string x.1, .string x.2, .int .i64 0, .string ⟨#[]⟩, .string ⟨#[]⟩, .string ⟨#[]⟩, .string ⟨#[]⟩, .string ⟨#[]⟩, .slice none 0 0, .slice none 0 0] 35)).alloc (.cells #[.int .i64 0, .string ⟨#[]⟩, .string ⟨#[]⟩, .int .i64 0, .string ⟨#[]⟩, .string ⟨#[]⟩, .string ⟨#[]⟩, .string ⟨#[]⟩, .string ⟨#[]⟩, .slice none 0 0, .slice none 0 0] 35)) = Y at *
  refine AC.out.mono ?_
  rintro e w3 ⟨cs3, rfl, h3, hb3⟩
  have HA3 := hI (HA.out.trans (hb3.mono HA.out.size))
  have HB4 := hI (B4.out.keep hb3)
  have hb5 := below_alT w3 (.cells #[.int .i64 0, .string ⟨#[]⟩, .string ⟨#[]⟩, .int .i64 0, .string ⟨#[]⟩, .string ⟨#[]⟩, .string ⟨#[]⟩, .string ⟨#[]⟩, .string ⟨#[]⟩, .slice none 0 0, .slice none 0 0] 35)
  have h5 : Hid (TB (w3.alloc (.cells #[.int .i64 0, .string ⟨#[]⟩, .string ⟨#[]⟩, .int .i64 0, .string ⟨#[]⟩, .string ⟨#[]⟩, .string ⟨#[]⟩, .string ⟨#[]⟩, .string ⟨#[]⟩, .slice none 0 0, .slice none 0 0] 35)) w3.heap.size zT) := heap_alloc_new _ _
  have HA5 := hI (HA3.out.trans (hb5.mono HA3.out.size))
  have HB45 := hI (HB4.out.keep hb5)
  have O3 := hI h3.o11
  have n4 : w.heap.size + 1 ≠ w3.heap.size := by have := HB4.out.lt; omega
  have n4' : w.heap.size ≤ w3.heap.size := by have := HB4.out.lt; omega
  have h3a : TmAt (w3.alloc (.cells #[.int .i64 0, .string ⟨#[]⟩, .string ⟨#[]⟩, .int .i64 0, .string ⟨#[]⟩, .string ⟨#[]⟩, .string ⟨#[]⟩, .string ⟨#[]⟩, .string ⟨#[]⟩, .slice none 0 0, .slice none 0 0] 35)) (Upto w (w3.alloc (.cells #[.int .i64 0, .string ⟨#[]⟩, .string ⟨#[]⟩, .int .i64 0, .string ⟨#[]⟩, .string ⟨#[]⟩, .string ⟨#[]⟩, .string ⟨#[]⟩, .string ⟨#[]⟩, .slice none 0 0, .slice none 0 0] 35)) S) t cs3 := (h3.below (fun b hb => upto_lt (HS.out.later HA.out.size) hb3.size b hb) hb5).more fun b hb => up3 HA.out (Below.refl _ _) b (upto_more hb5.size b hb)
  have h3b : TmAt ((w3.alloc (.cells #[.int .i64 0, .string ⟨#[]⟩, .string ⟨#[]⟩, .int .i64 0, .string ⟨#[]⟩, .string ⟨#[]⟩, .string ⟨#[]⟩, .string ⟨#[]⟩, .string ⟨#[]⟩, .slice none 0 0, .slice none 0 0] 35)).setRow w3.heap.size cs3.toArray) (Upto w ((w3.alloc (.cells #[.int .i64 0, .string ⟨#[]⟩, .string ⟨#[]⟩, .int .i64 0, .string ⟨#[]⟩, .string ⟨#[]⟩, .string ⟨#[]⟩, .string ⟨#[]⟩, .string ⟨#[]⟩, .slice none 0 0, .slice none 0 0] 35)).setRow w3.heap.size cs3.toArray) S) t cs3 := TmAt.boxed h3a h5.out.nb _
  have HB46 : Hid (TB ((w3.alloc (.cells #[.int .i64 0, .string ⟨#[]⟩, .string ⟨#[]⟩, .int .i64 0, .string ⟨#[]⟩, .string ⟨#[]⟩, .string ⟨#[]⟩, .string ⟨#[]⟩, .string ⟨#[]⟩, .slice none 0 0, .slice none 0 0] 35)).setRow w3.heap.size cs3.toArray) (w.heap.size + 1) zT) := HB45.out.other n4
  have HB56 : Hid (TB ((w3.alloc (.cells #[.int .i64 0, .string ⟨#[]⟩, .string ⟨#[]⟩, .int .i64 0, .string ⟨#[]⟩, .string ⟨#[]⟩, .string ⟨#[]⟩, .string ⟨#[]⟩, .string ⟨#[]⟩, .slice none 0 0, .slice none 0 0] 35)).setRow w3.heap.size cs3.toArray) w3.heap.size cs3) := h5.out.set _
  have HA6 : Hid (Below w.heap.size w ((w3.alloc (.cells #[.int .i64 0, .string ⟨#[]⟩, .string ⟨#[]⟩, .int .i64 0, .string ⟨#[]⟩, .string ⟨#[]⟩, .string ⟨#[]⟩, .string ⟨#[]⟩, .string ⟨#[]⟩, .slice none 0 0, .slice none 0 0] 35)).setRow w3.heap.size cs3.toArray)) := below_setRowO HA5.out n4' _
  have HCF : Hid (RetT w S t (.returned (vTm cs3)) (((w3.alloc (.cells #[.int .i64 0, .string ⟨#[]⟩, .string ⟨#[]⟩, .int .i64 0, .string ⟨#[]⟩, .string ⟨#[]⟩, .string ⟨#[]⟩, .string ⟨#[]⟩, .string ⟨#[]⟩, .slice none 0 0, .slice none 0 0] 35)).setRow w3.heap.size cs3.toArray).setRow (w.heap.size + 1) cs3.toArray)) := ⟨_, rfl, TmAt.boxed h3b HB46.out.nb _, below_setRowO HA6.out (by omega) _⟩
  have O1 := hI O3.out.1
  clear hb3 h3 h3a h3b hb5 AC k0 k1 k2 n4 n4' HB45 HB4 HA5 HA3
  go_wp2_with (first | ((with_reducible refine storeTb (cs := cs3) (.tmp 5) (.tmp 16) ?_ ?_ ?_ ?_ h5.out ?_ ?_ ?_ ?_); rfl; rfl; rfl; rfl; rfl; exact O1.out; exact O3.out.2) | ((with_reducible refine loadTb (cs := cs3) (.tmp 5) ?_ ?_ ?_ HB56.out ?_ ?_); rfl; rfl; rfl; exact O1.out) | ((with_reducible refine storeTb (cs := cs3) (.tmp 4) (.tmp 19) ?_ ?_ ?_ ?_ HB46.out ?_ ?_ ?_ ?_); rfl; rfl; rfl; rfl; rfl; exact O1.out; exact O3.out.2))
  exact retTb rfl rfl (HB46.out.set _) O1.out HCF.out
theorem substConR (s : List (Nm × Tm)) (sv : Value) (S : Nat → Prop) (o : Ob) (cs : List Value) (w : World) (hS : In S w) (h : TmAt w S (.con o) cs) :
 Calls Tryz.prog 35 #[vTm cs, sv] w (RetT w S (subT s (.con o))) := by
 have h' := h
 have O1 := hI h.o11
 unfold TmAt at h
 obtain ⟨p, ecs, hp⟩ := h
 obtain ⟨x0, x1, x2, x3, x4, x5, ea⟩ := cells7 o p
 rw [ea] at ecs
 obtain ⟨x6, ex6⟩ : ∃ x6, x6 = p := ⟨_, rfl⟩
 rw [← ex6] at ecs
 have ecs2 : cs = [.int .i64 2, .string ⟨#[]⟩, .string ⟨#[]⟩, x0, x1, x2, x3, x4, x5, x6, .slice none 0 0] := ecs
 subst ecs2
 clear ecs ea ex6 hp
 have hA : Below w.heap.size w ((w.alloc (.cells #[.int .i64 2, .string ⟨#[]⟩, .string ⟨#[]⟩, x0, x1, x2, x3, x4, x5, x6, .slice none 0 0] 35)).alloc (.cells #[.int .i64 0, .string ⟨#[]⟩, .string ⟨#[]⟩, .int .i64 0, .string ⟨#[]⟩, .string ⟨#[]⟩, .string ⟨#[]⟩, .string ⟨#[]⟩, .string ⟨#[]⟩, .slice none 0 0, .slice none 0 0] 35)) := Below.alloc (Below.alloc (Below.refl _ _) (Nat.le_refl _) _) (by simp) _
 have B2 : Hid (TB ((w.alloc (.cells #[.int .i64 2, .string ⟨#[]⟩, .string ⟨#[]⟩, x0, x1, x2, x3, x4, x5, x6, .slice none 0 0] 35)).alloc (.cells #[.int .i64 0, .string ⟨#[]⟩, .string ⟨#[]⟩, .int .i64 0, .string ⟨#[]⟩, .string ⟨#[]⟩, .string ⟨#[]⟩, .string ⟨#[]⟩, .string ⟨#[]⟩, .slice none 0 0, .slice none 0 0] 35)) w.heap.size [.int .i64 2, .string ⟨#[]⟩, .string ⟨#[]⟩, x0, x1, x2, x3, x4, x5, x6, .slice none 0 0]) := (Below.heap_alloc _ _ _ (by simp)).trans (heap_alloc_new w _)
 have B4 : Hid (TB ((w.alloc (.cells #[.int .i64 2, .string ⟨#[]⟩, .string ⟨#[]⟩, x0, x1, x2, x3, x4, x5, x6, .slice none 0 0] 35)).alloc (.cells #[.int .i64 0, .string ⟨#[]⟩, .string ⟨#[]⟩, .int .i64 0, .string ⟨#[]⟩, .string ⟨#[]⟩, .string ⟨#[]⟩, .string ⟨#[]⟩, .string ⟨#[]⟩, .slice none 0 0, .slice none 0 0] 35)) (w.heap.size + 1) zT) := heap_new_at (by simp)
 have HT : Hid (TmAt ((w.alloc (.cells #[.int .i64 2, .string ⟨#[]⟩, .string ⟨#[]⟩, x0, x1, x2, x3, x4, x5, x6, .slice none 0 0] 35)).alloc (.cells #[.int .i64 0, .string ⟨#[]⟩, .string ⟨#[]⟩, .int .i64 0, .string ⟨#[]⟩, .string ⟨#[]⟩, .string ⟨#[]⟩, .string ⟨#[]⟩, .string ⟨#[]⟩, .slice none 0 0, .slice none 0 0] 35)) (Upto w ((w.alloc (.cells #[.int .i64 2, .string ⟨#[]⟩, .string ⟨#[]⟩, x0, x1, x2, x3, x4, x5, x6, .slice none 0 0] 35)).alloc (.cells #[.int .i64 0, .string ⟨#[]⟩, .string ⟨#[]⟩, .int .i64 0, .string ⟨#[]⟩, .string ⟨#[]⟩, .string ⟨#[]⟩, .string ⟨#[]⟩, .string ⟨#[]⟩, .slice none 0 0, .slice none 0 0] 35)) S) (.con o) [.int .i64 2, .string ⟨#[]⟩, .string ⟨#[]⟩, x0, x1, x2, x3, x4, x5, x6, .slice none 0 0]) := (h'.below hS hA).more fun b hb => .inl hb
 have e : subT s (.con o) = .con o := by unfold subT; rfl
 rw [e]
 have k0 := TB.cell B2.out 0 _ rfl
 have hz : ((w.alloc (.cells #[.int .i64 2, .string ⟨#[]⟩, .string ⟨#[]⟩, x0, x1, x2, x3, x4, x5, x6, .slice none 0 0] 35)).alloc (.cells #[.int .i64 0, .string ⟨#[]⟩, .string ⟨#[]⟩, .int .i64 0, .string ⟨#[]⟩, .string ⟨#[]⟩, .string ⟨#[]⟩, .string ⟨#[]⟩, .string ⟨#[]⟩, .slice none 0 0, .slice none 0 0] 35)).heap.size = w.heap.size + 2 := by simp
 have HCF : Hid (RetT w S (.con o) (.returned (vTm [.int .i64 2, .string ⟨#[]⟩, .string ⟨#[]⟩, x0, x1, x2, x3, x4, x5, x6, .slice none 0 0])) (((w.alloc (.cells #[.int .i64 2, .string ⟨#[]⟩, .string ⟨#[]⟩, x0, x1, x2, x3, x4, x5, x6, .slice none 0 0] 35)).alloc (.cells #[.int .i64 0, .string ⟨#[]⟩, .string ⟨#[]⟩, .int .i64 0, .string ⟨#[]⟩, .string ⟨#[]⟩, .string ⟨#[]⟩, .string ⟨#[]⟩, .string ⟨#[]⟩, .slice none 0 0, .slice none 0 0] 35)).setRow (w.heap.size + 1) #[.int .i64 2, .string ⟨#[]⟩, .string ⟨#[]⟩, x0, x1, x2, x3, x4, x5, x6, .slice none 0 0])) := ⟨_, rfl, TmAt.boxed HT.out B4.out.nb _, below_setRowO hA (by omega) _⟩
 clear hA h' e hz hS HT
 unfold vTm
 go_enter Tryz.func35, Tryz.ntmps35
 go_wp2_with (first | ((with_reducible refine loadTb (cs := [.int .i64 2, .string ⟨#[]⟩, .string ⟨#[]⟩, x0, x1, x2, x3, x4, x5, x6, .slice none 0 0]) (.tmp 2) ?_ ?_ ?_ B2.out ?_ ?_); rfl; rfl; rfl; rfl) | ((with_reducible refine storeTb (cs := [.int .i64 2, .string ⟨#[]⟩, .string ⟨#[]⟩, x0, x1, x2, x3, x4, x5, x6, .slice none 0 0]) (.tmp 4) (.tmp 29) ?_ ?_ ?_ ?_ B4.out ?_ ?_ ?_ ?_); rfl; rfl; rfl; rfl; rfl; rfl; exact O1.out.2))
 exact retTb rfl rfl (B4.out.set _) rfl HCF.out
theorem upto_two {w w1 w2 : World} {S : Nat → Prop} (h1 : w.heap.size ≤ w1.heap.size) (h2 : w1.heap.size ≤ w2.heap.size) (b : Nat) (h : Upto w1 w2 (Upto w w1 S) b) : Upto w w2 S b := by
 rcases h with h | ⟨h3, h4⟩
 · exact upto_more h2 b h
 · exact .inr ⟨by omega, h4⟩
theorem substAppR (s : List (Nm × Tm)) (sv : Value) (S : Nat → Prop) (f : Nm) (l : List Tm) (cs : List Value) (w : World) (hS : In S w) (h : TmAt w S (.app f l) cs) (hn : l.length ≤ 3000)
 (ke : ∀ x ∈ l, ∀ (W : World) (cs : List Value), Below w.heap.size w W → TmAt W S x cs → Calls Tryz.prog 35 #[vTm cs, sv] W (RetT W S (subT s x))) :
 Calls Tryz.prog 35 #[vTm cs, sv] w (RetT w S (subT s (.app f l))) := by
 have h' := h
 unfold TmAt at h
 obtain ⟨A, c, ecs, hlc, hr⟩ := h
 have ecs2 : cs = [.int .i64 3, .string f.1, .string f.2, .int .i64 0, .string ⟨#[]⟩, .string ⟨#[]⟩, .string ⟨#[]⟩, .string ⟨#[]⟩, .string ⟨#[]⟩, .slice none 0 0, .slice A l.length c] := ecs
 subst ecs2
 have ha : ArgsAt w S l A c := ⟨hlc, hr⟩
 have hA : Below w.heap.size w ((w.alloc (.cells #[.int .i64 3, .string f.1, .string f.2, .int .i64 0, .string ⟨#[]⟩, .string ⟨#[]⟩, .string ⟨#[]⟩, .string ⟨#[]⟩, .string ⟨#[]⟩, .slice none 0 0, .slice A l.length c] 35)).alloc (.cells #[.int .i64 0, .string ⟨#[]⟩, .string ⟨#[]⟩, .int .i64 0, .string ⟨#[]⟩, .string ⟨#[]⟩, .string ⟨#[]⟩, .string ⟨#[]⟩, .string ⟨#[]⟩, .slice none 0 0, .slice none 0 0] 35)) := Below.alloc (Below.alloc (Below.refl _ _) (Nat.le_refl _) _) (by simp) _
 have B2 : Hid (TB ((w.alloc (.cells #[.int .i64 3, .string f.1, .string f.2, .int .i64 0, .string ⟨#[]⟩, .string ⟨#[]⟩, .string ⟨#[]⟩, .string ⟨#[]⟩, .string ⟨#[]⟩, .slice none 0 0, .slice A l.length c] 35)).alloc (.cells #[.int .i64 0, .string ⟨#[]⟩, .string ⟨#[]⟩, .int .i64 0, .string ⟨#[]⟩, .string ⟨#[]⟩, .string ⟨#[]⟩, .string ⟨#[]⟩, .string ⟨#[]⟩, .slice none 0 0, .slice none 0 0] 35)) w.heap.size [.int .i64 3, .string f.1, .string f.2, .int .i64 0, .string ⟨#[]⟩, .string ⟨#[]⟩, .string ⟨#[]⟩, .string ⟨#[]⟩, .string ⟨#[]⟩, .slice none 0 0, .slice A l.length c]) := (Below.heap_alloc _ _ _ (by simp)).trans (heap_alloc_new w _)
 have B4 : Hid (TB ((w.alloc (.cells #[.int .i64 3, .string f.1, .string f.2, .int .i64 0, .string ⟨#[]⟩, .string ⟨#[]⟩, .string ⟨#[]⟩, .string ⟨#[]⟩, .string ⟨#[]⟩, .slice none 0 0, .slice A l.length c] 35)).alloc (.cells #[.int .i64 0, .string ⟨#[]⟩, .string ⟨#[]⟩, .int .i64 0, .string ⟨#[]⟩, .string ⟨#[]⟩, .string ⟨#[]⟩, .string ⟨#[]⟩, .string ⟨#[]⟩, .slice none 0 0, .slice none 0 0] 35)) (w.heap.size + 1) zT) := heap_new_at (by simp)
 have e : subT s (.app f l) = .app f (l.map (subT s)) := by unfold subT; rw [subTs_map]
 rw [e]
 have SAC : Hid (∀ X, Below ((w.alloc (.cells #[.int .i64 3, .string f.1, .string f.2, .int .i64 0, .string ⟨#[]⟩, .string ⟨#[]⟩, .string ⟨#[]⟩, .string ⟨#[]⟩, .string ⟨#[]⟩, .slice none 0 0, .slice A l.length c] 35)).alloc (.cells #[.int .i64 0, .string ⟨#[]⟩, .string ⟨#[]⟩, .int .i64 0, .string ⟨#[]⟩, .string ⟨#[]⟩, .string ⟨#[]⟩, .string ⟨#[]⟩, .string ⟨#[]⟩, .slice none 0 0, .slice none 0 0] 35)).heap.size ((w.alloc (.cells #[.int .i64 3, .string f.1, .string f.2, .int .i64 0, .string ⟨#[]⟩, .string ⟨#[]⟩, .string ⟨#[]⟩, .string ⟨#[]⟩, .string ⟨#[]⟩, .slice none 0 0, .slice A l.length c] 35)).alloc (.cells #[.int .i64 0, .string ⟨#[]⟩, .string ⟨#[]⟩, .int .i64 0, .string ⟨#[]⟩, .string ⟨#[]⟩, .string ⟨#[]⟩, .string ⟨#[]⟩, .string ⟨#[]⟩, .slice none 0 0, .slice none 0 0] 35)) X → Calls Tryz.prog 80 #[.slice A l.length c, sv] X (RetMk X S (l.map (subT s)))) := fun X hX => by
  have hc := chain2 hA hX (Nat.le_refl _)
  exact subAllR s sv l A c X S (hS.later hc.size) (ha.below hS hc) hn fun x hx W cs hb ht => ke x hx W cs (chain2 hc hb (Nat.le_refl _)) ht
 have k0 := TB.cell B2.out 0 _ rfl
 have K1 := hI (TB.cell B2.out 1 _ rfl)
 have K2 := hI (TB.cell B2.out 2 _ rfl)
 have K10 := hI (TB.cell B2.out 10 _ rfl)
 have hz : ((w.alloc (.cells #[.int .i64 3, .string f.1, .string f.2, .int .i64 0, .string ⟨#[]⟩, .string ⟨#[]⟩, .string ⟨#[]⟩, .string ⟨#[]⟩, .string ⟨#[]⟩, .slice none 0 0, .slice A l.length c] 35)).alloc (.cells #[.int .i64 0, .string ⟨#[]⟩, .string ⟨#[]⟩, .int .i64 0, .string ⟨#[]⟩, .string ⟨#[]⟩, .string ⟨#[]⟩, .string ⟨#[]⟩, .string ⟨#[]⟩, .slice none 0 0, .slice none 0 0] 35)).heap.size = w.heap.size + 2 := by simp
 have HL : Hid (w.heap.size < ((w.alloc (.cells #[.int .i64 3, .string f.1, .string f.2, .int .i64 0, .string ⟨#[]⟩, .string ⟨#[]⟩, .string ⟨#[]⟩, .string ⟨#[]⟩, .string ⟨#[]⟩, .slice none 0 0, .slice A l.length c] 35)).alloc (.cells #[.int .i64 0, .string ⟨#[]⟩, .string ⟨#[]⟩, .int .i64 0, .string ⟨#[]⟩, .string ⟨#[]⟩, .string ⟨#[]⟩, .string ⟨#[]⟩, .string ⟨#[]⟩, .slice none 0 0, .slice none 0 0] 35)).heap.size) := (by show _ < _; omega)
 have HSW := hI (hS.later hA.size)
 have HA := hI hA
 have hk1 : ((3 : Int) == 1) = false := by decide
 clear h' ha hr hlc ke e hz hS ecs hA B2
 unfold vTm
 go_enter Tryz.func35, Tryz.ntmps35
 go_wp2_with fail
 generalize ((w.alloc (.cells #[.int .i64 3, .string f.1, .string f.2, .int .i64 0, .string ⟨#[]⟩, .string ⟨#[]⟩, .string ⟨#[]⟩, .string ⟨#[]⟩, .string ⟨#[]⟩, .slice none 0 0, .slice A l.length c] 35)).alloc (.cells #[.int .i64 0, .string ⟨#[]⟩, .string ⟨#[]⟩, .int .i64 0, .string ⟨#[]⟩, .string ⟨#[]⟩, .string ⟨#[]⟩, .string ⟨#[]⟩, .string ⟨#[]⟩, .slice none 0 0, .slice none 0 0] 35)) = W at *
 refine wp_region_grow (l := _) 7 (by kernel_rfl) (by kernel_rfl) (fun i => [22, 23, 24, 25, 26, 27, 28].getD i 0) (LR [LV (.pointer (some ⟨w.heap.size, 1, none⟩)), LV (.agg #[.string f.1, .string f.2]), LV (.pointer (some ⟨w.heap.size, 10, none⟩)), LV (.slice A l.length c), LV (sv), LTs W S (l.map (subT s)), LTm W S (.app f (l.map (subT s)))]) (LR_mono ⟨mLV _, mLV _, mLV _, mLV _, mLV _, mLTs HSW.out _, mLTm HSW.out _, trivial⟩) (by
  intro i j hi hj h
  exact inj_getD [22, 23, 24, 25, 26, 27, 28] (by decide) i j hi hj h) (by
  intro i hi
  exact lt_getD 30 [22, 23, 24, 25, 26, 27, 28] (by decide) i hi) ?step ?done
 case step =>
  intro ii hii a w9 v lo hi' hoth hb hw
  have sl2 : a.tmps[2]? = some (.pointer (some ⟨w.heap.size, 0, none⟩)) := (hoth 2 (fun j hj => ne_getD 2 _ (by decide) j hj)).trans rfl
  have sl1 : a.tmps[1]? = some (sv) := (hoth 1 (fun j hj => ne_getD 1 _ (by decide) j hj)).trans rfl
  match ii, hii with
  | 0, _ =>
   refine wpOp_step rfl fun K' hK' => ?_
   rw [if_pos (wanted_plain rfl)]
   unfold Oper.wp
   simp only [execOp]
   go_simp
   exact hK' _ _ ⟨_, rfl, Below.refl _ _, rfl⟩
  | 1, _ =>
   obtain ⟨s0, r0, _⟩ := hw 0 (by omega) (by kernel_rfl)
   have e0 : v 0 = .pointer (some ⟨w.heap.size, 1, none⟩) := r0
   rw [e0] at s0
   replace s0 : a.tmps[22]? = some (.pointer (some ⟨w.heap.size, 1, none⟩)) := s0
   have cc0 := (hb.cell (p := ⟨w.heap.size, 1, none⟩) HL.out).trans K1.out
   have cc1 := (hb.cell (p := ⟨w.heap.size, 2, none⟩) HL.out).trans K2.out
   refine wpOp_step rfl fun K' hK' => ?_
   rw [if_pos (wanted_plain rfl)]
   unfold Oper.wp
   simp only [execOp]
   go_simp
   exact hK' _ _ ⟨_, rfl, Below.refl _ _, rfl⟩
  | 2, _ =>
   refine wpOp_step rfl fun K' hK' => ?_
   rw [if_pos (wanted_plain rfl)]
   unfold Oper.wp
   simp only [execOp]
   go_simp
   exact hK' _ _ ⟨_, rfl, Below.refl _ _, rfl⟩
  | 3, _ =>
   obtain ⟨s0, r0, _⟩ := hw 2 (by omega) (by kernel_rfl)
   have e0 : v 2 = .pointer (some ⟨w.heap.size, 10, none⟩) := r0
   rw [e0] at s0
   replace s0 : a.tmps[24]? = some (.pointer (some ⟨w.heap.size, 10, none⟩)) := s0
   have cc0 := (hb.cell (p := ⟨w.heap.size, 10, none⟩) HL.out).trans K10.out
   refine wpOp_step rfl fun K' hK' => ?_
   rw [if_pos (wanted_plain rfl)]
   unfold Oper.wp
   simp only [execOp]
   go_simp
   exact hK' _ _ ⟨_, rfl, Below.refl _ _, rfl⟩
  | 4, _ =>
   exact gw_move rfl (wanted_plain rfl) 1 _ rfl sl1 ⟨_, rfl, Below.refl _ _, rfl⟩
  | 5, _ =>
   obtain ⟨s0, r0, _⟩ := hw 3 (by omega) (by kernel_rfl)
   have e0 : v 3 = .slice A l.length c := r0
   rw [e0] at s0
   replace s0 : a.tmps[25]? = some (.slice A l.length c) := s0
   obtain ⟨s1, r1, _⟩ := hw 4 (by omega) (by kernel_rfl)
   have e1 : v 4 = sv := r1
   rw [e1] at s1
   replace s1 : a.tmps[26]? = some (sv) := s1
   refine gw_tt rfl (wanted_plain rfl) 80 25 26 _ _ _ rfl (fun v u w => by go_simp) s0 s1 ?_
   with_reducible refine (SAC.out w9 hb).mono ?_
   rintro e w3 ⟨vv, xs, rfl, hm⟩
   exact ⟨_, rfl, _, rfl, hm.bel, Nat.le_trans hb.size hm.bel.size, (hm.slice).more (fun b hb' => up3 (Below.refl _ W) hb b hb')⟩
  | 6, _ =>
   obtain ⟨s0, r0, _⟩ := hw 1 (by omega) (by kernel_rfl)
   have e0 : v 1 = .agg #[.string f.1, .string f.2] := r0
   rw [e0] at s0
   replace s0 : a.tmps[23]? = some (.agg #[.string f.1, .string f.2]) := s0
   obtain ⟨s1, r1, b1⟩ := hw 5 (by omega) (by kernel_rfl)
   obtain ⟨hz1, hts1⟩ := r1
   obtain ⟨u1, e1⟩ : ∃ u, v 5 = u := ⟨_, rfl⟩
   rw [e1] at hts1
   rw [e1] at s1
   refine gw_tt rfl (wanted_plain rfl) 23 23 27 _ _ _ rfl (fun v u w => by go_simp) s0 s1 ?_
   with_reducible refine (appR f (l.map (subT s)) u1 w9 (Upto W w9 S) (HSW.out.upto hb.size) hts1).mono ?_
   rintro e w3 ⟨cs3, rfl, h3, hb3⟩
   exact ⟨_, rfl, _, rfl, hb3, Nat.le_trans hb.size hb3.size, cs3, rfl, h3.more fun b hb' => upto_two hb.size hb3.size b hb'⟩
 case done =>
  intro a w9 v lo hi' hdef hsz hoth hb hj hap
  obtain ⟨_, ⟨hz6, cs3, hv6, h3⟩, hlo6, hhi6⟩ := hj 6 (by omega)
  have ha := eq_puts hdef hsz hoth (fun i hi => (hj i hi).1)
  subst ha
  clear hj hoth hdef hsz hap
  simp only [puts, List.getD_cons_zero, List.getD_cons_succ, hv6]
  generalize v 0 = v0
  generalize v 1 = v1
  generalize v 2 = v2
  generalize v 3 = v3
  generalize v 4 = v4
  generalize v 5 = v5
  clear hv6
  simp only [Act.put, List.setIfInBounds_toArray, List.set_cons_zero, List.set_cons_succ]
  show wpList _ _ _ [_] _ _
  have HB := hI (HA.out.trans (hb.mono HA.out.size))
  have HT := hI (B4.out.keep hb)
  have H3 : Hid (TmAt w9 (Upto w w9 S) (.app f (l.map (subT s))) cs3) := h3.more fun b hb' => up3 HA.out (Below.refl _ _) b hb'
  have O1 := hI h3.o11
  clear hb SAC h3
  go_wp2_with ((with_reducible refine storeTb (cs := cs3) (.tmp 4) (.tmp 28) ?_ ?_ ?_ ?_ HT.out ?_ ?_ ?_ ?_); rfl; rfl; rfl; rfl; rfl; exact O1.out.1; exact O1.out.2)
  exact retTb rfl rfl (HT.out.set _) O1.out.1 ⟨_, rfl, TmAt.boxed H3.out HT.out.nb _, below_setRowO HB.out (by omega) _⟩
theorem substituteR (s : List (Nm × Tm)) (sv : Value) (S : Nat → Prop) (hs : s.length ≤ 100000) : ∀ (t : Tm) (w : World) (cs : List Value), In S w → AsV w S s sv → t.nodes ≤ 3000 → TmAt w S t cs →
 Calls Tryz.prog 35 #[vTm cs, sv] w (RetT w S (subT s t)) := by
 intro t
 induction t using Tm.ind with
 | hv x =>
  intro w cs hS ha hn h
  have e : cs = [.int .i64 1, .string x.1, .string x.2, .int .i64 0, .string ⟨#[]⟩, .string ⟨#[]⟩, .string ⟨#[]⟩, .string ⟨#[]⟩, .string ⟨#[]⟩, .slice none 0 0, .slice none 0 0] := h
  subst e
  exact substVarR s sv S x w hS ha hs
 | hc o => intro w cs hS ha hn h; exact substConR s sv S o cs w hS h
 | ha f l ih =>
  intro w cs hS ha hn h
  have h2 : (Tm.app f l).nodes = 1 + Tm.nodesL l := (by unfold Tm.nodes; rfl)
  have h3 := Tm.nodesL_len l
  exact substAppR s sv S f l cs w hS h (by omega) fun x hx W cs hb ht => ih x hx W cs (hS.later hb.size) (ha.below hS hb) (by have := Tm.nodes_mem hx; omega) ht
end Go.Proofs.YtinjhnnpbejccaaGreatDoor
