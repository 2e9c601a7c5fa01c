/- The program settles places; equality of terms, one term at one address. -/
import Derived.Test.YtinjhnnpbejccaaGreatDoorG19
import Derived.Test.YtinjhnnpbejccaaGreatDoorG20
import Derived.Laws.EntriesVeiled
import Derived.Test.YtinjhnnpbejccaaGreatDoorG17
namespace Go.Proofs.YtinjhnnpbejccaaGreatDoor
open Go Go.RowKit
set_option linter.unusedVariables false
set_option maxHeartbeats 32000000
set_option maxRecDepth 100000
def CtAt (w : World) (g : Nat) (k : Nat) : Prop := w.heap[g]? = some (.cells #[.int .i64 k, .map none] 133 (0, 0))
def RunT (w wr : World) (g : Nat) (lo hi : Nat) : Prop := w.grownBy wr (some g) ∧ ∃ k, CtAt wr g k ∧ lo ≤ k ∧ k ≤ hi
theorem CtAt.lt {w : World} {g : Nat} {k : Nat} (h : CtAt w g k) : g < w.heap.size := by
 unfold CtAt at h
 rcases Nat.lt_or_ge g w.heap.size with hlt | hge
 · exact hlt
 · rw [Array.getElem?_eq_none hge] at h; cases h
theorem CtAt.c0 {w : World} {g : Nat} {k : Nat} (h : CtAt w g k) : w.cell? ⟨g, 0, none⟩ = some (.int .i64 k) := by rw [cell_of_row _ _ _ _ _ _ h]; rfl
theorem CtAt.f0 {w : World} {g : Nat} {k : Nat} (h : CtAt w g k) : w.frozen? ⟨g, 0, none⟩ = false := by
 unfold CtAt at h
 simp [World.frozen?, h]
theorem CtAt.set {w : World} {g : Nat} {k : Nat} (h : CtAt w g k) (k' : Nat) : CtAt (w.setCell ⟨g, 0, none⟩ (.int .i64 (k' : Nat))) g k' := by
 unfold CtAt at h ⊢
 simp [World.setCell, Array.getElem?_modify, h]
theorem CtAt.below {w wr : World} {g : Nat} {k : Nat} (h : CtAt w g k) (hb : Below w.heap.size w wr) : CtAt wr g k := (hb.block g h.lt).trans h
theorem RunT.start {w : World} {g : Nat} {k : Nat} (h : CtAt w g k) : RunT w w g k k := ⟨⟨rfl, rfl, rfl, Nat.le_refl _, fun _ _ _ => rfl⟩, k, h, Nat.le_refl _, Nat.le_refl _⟩
theorem RunT.below {w wr w' : World} {g : Nat} {lo hi : Nat} (h : RunT w wr g lo hi) (hb : Below wr.heap.size wr w') : RunT w w' g lo hi := by
 obtain ⟨hg, k, hc, h1, h2⟩ := h
 exact ⟨⟨hb.os.trans hg.os, hb.tape.trans hg.tape, hb.output.trans hg.output, Nat.le_trans hg.size hb.size, fun i hi hn => (hb.block i (Nat.lt_of_lt_of_le hi hg.size)).trans (hg.block i hi hn)⟩, k, (hb.block g hc.lt).trans hc, h1, h2⟩
theorem RunT.drew {w wr : World} {g : Nat} {lo hi : Nat} (h : RunT w wr g lo hi) : RunT w wr.drew g lo hi := h.below ⟨rfl, rfl, rfl, Nat.le_refl _, fun _ _ => rfl⟩
theorem RunT.more {w wr : World} {g : Nat} {lo hi hi' : Nat} (h : RunT w wr g lo hi) (hh : hi ≤ hi') : RunT w wr g lo hi' := by
 obtain ⟨hg, k, hc, h1, h2⟩ := h
 exact ⟨hg, k, hc, h1, Nat.le_trans h2 hh⟩
theorem RunT.trans {w wr w' : World} {g : Nat} {lo hi' k : Nat} (h : w.grownBy wr (some g)) (hk : lo ≤ k) (h' : RunT wr w' g k hi') : RunT w w' g lo hi' := by
 obtain ⟨hg, k', hc, h1, h2⟩ := h'
 refine ⟨⟨hg.os.trans h.os, hg.tape.trans h.tape, hg.output.trans h.output, Nat.le_trans h.size hg.size, fun i hi hn => (hg.block i (Nat.lt_of_lt_of_le hi h.size) hn).trans (h.block i hi hn)⟩, k', hc, by omega, h2⟩
theorem RunT.set {w wr : World} {g : Nat} {lo k : Nat} (h : w.grownBy wr (some g)) (hc : CtAt wr g k) (hlo : lo ≤ k) : RunT w (wr.setCell ⟨g, 0, none⟩ (.int .i64 ((k + 1 : Nat) : Int))) g lo (k + 1) := by
 refine ⟨⟨h.os, h.tape, h.output, by simpa [World.setCell] using h.size, fun i hi hn => ?_⟩, k + 1, hc.set (k + 1), by omega, Nat.le_refl _⟩
 exact (Below.heap_setCell wr ⟨g, 0, none⟩ _ i (fun e => hn (by rw [e]))).trans (h.block i hi hn)
theorem TmP.run {w wr : World} {S : Nat → Prop} {g : Nat} {lo hi : Nat} {t : Tm} {b k : Nat} {cs : List Value} (h : TmP w S t b k cs) (hS : In S w) (hg : ¬ S g) (r : RunT w wr g lo hi) : TmP wr S t b k cs :=
 h.keep (fun _ h => h) fun q hq => r.1.block q (hS q hq) (fun e => hg (by injection e with e; rwa [e] at hq))
theorem cell_run {w wr : World} {S : Nat → Prop} {g : Nat} {lo hi : Nat} {b k : Nat} {v : Value} (h : w.cell? ⟨b, k, none⟩ = some v) (hb : S b) (hS : In S w) (hg : ¬ S g) (r : RunT w wr g lo hi) : wr.cell? ⟨b, k, none⟩ = some v :=
 (World.cell?_of_block (a := ⟨b, k, none⟩) (r.1.block b (hS b hb) (fun e => hg (by injection e with e; rwa [e] at hb)))).trans h
def EqPl (p q : Value) (r : Bool) (W : World) : Prop := ∀ d, (Op.equalIn (d + 1) 91 p q).run Tryz.prog W = .ok r W
theorem infoTm : ∃ j, Tryz.prog.info? 35 = some j ∧ j.size ≠ 0 := by
 have e : (Tryz.prog.info? 35).map (fun i => decide (i.size ≠ 0)) = some true := by kernel_rfl
 generalize Tryz.prog.info? 35 = i at e
 cases i with
 | none => cases e
 | some j => exact ⟨j, rfl, by simpa using e⟩
theorem eqPl_zero (W : World) : EqPl (.pointer none) (.pointer none) true W := fun d => by
 simp [Op.equalIn, run_underlying Tryz.underlying91]
theorem eqPl_same (W : World) (a : Addr) : EqPl (.pointer (some a)) (.pointer (some a)) true W := fun d => by
 obtain ⟨j, hj, _⟩ := infoTm
 simp [Op.equalIn, run_underlying Tryz.underlying91, sizeOf, typeInfo, hj, run_sameAddr_same]
theorem eqPl_other (W : World) {b o b' o' : Nat} (h : Plain W b) (h' : Plain W b') (hne : ¬ (b = b' ∧ o = o')) : EqPl (.pointer (some ⟨b, o, none⟩)) (.pointer (some ⟨b', o', none⟩)) false W := fun d => by
 obtain ⟨_, _, h1⟩ := h
 obtain ⟨_, _, h2⟩ := h'
 obtain ⟨j, hj, hs⟩ := infoTm
 have hn : (⟨b, o, none⟩ : Addr) ≠ ⟨b', o', none⟩ := fun e => by
  injection e with e1 e2
  exact hne ⟨e1, e2⟩
 simp [Op.equalIn, run_underlying Tryz.underlying91, sizeOf, typeInfo, hj, hs, run_sameAddr_other W hn h1 h2]
theorem setT1 (g : Nat) (p0 q0 : Value) (n : Int) (h1 : p0.oneCell' = true) (h2 : q0.oneCell' = true) (w : World) (he : ∀ W, Below w.heap.size w W → EqPl p0 q0 true W) :
 Calls Tryz.prog 137 #[.pointer (some ⟨g, 0, none⟩), .agg #[p0, .int .i64 n], .agg #[q0, .int .i64 n]] w (RetB w true) := by
 have hb : Below w.heap.size w ((w.alloc (.cells #[p0, .int .i64 n] 112)).alloc (.cells #[q0, .int .i64 n] 112)) := Below.alloc (Below.alloc (Below.refl _ _) (Nat.le_refl _) _) (by simp) _
 have hE := he _ hb
 unfold EqPl at hE
 have HB := hI hb
 clear he hb
 go_enter Tryz.func137, Tryz.ntmps137
 go_wp2_with fail
 go_ret
 exact ⟨rfl, HB.out⟩
theorem setT0 (g : Nat) (p0 q0 : Value) (n : Int) (ho1 : p0.oneCell' = true) (ho2 : q0.oneCell' = true) (w0 w : World) (lo hi : Nat) (he : ∀ W, Below w.heap.size w W → EqPl p0 q0 false W) (hr : RunT w0 w g lo hi) (hh : hi + 1 ≤ 3000) :
 Calls Tryz.prog 137 #[.pointer (some ⟨g, 0, none⟩), .agg #[p0, .int .i64 n], .agg #[q0, .int .i64 n]] w (fun e w' => e = .returned (.bool false) ∧ RunT w0 w' g lo (hi + 1)) := by
 have hb : Below w.heap.size w ((w.alloc (.cells #[p0, .int .i64 n] 112)).alloc (.cells #[q0, .int .i64 n] 112)) := Below.alloc (Below.alloc (Below.refl _ _) (Nat.le_refl _) _) (by simp) _
 have hE := he _ hb
 unfold EqPl at hE
 obtain ⟨hg, k, hc, h1, h2⟩ := hr
 have hr2 := RunT.below (show RunT w0 w g lo k from ⟨hg, k, hc, h1, Nat.le_refl _⟩) hb
 have hc2 := hc.below hb
 have c0 := hc2.c0
 have f0 := hc2.f0
 have hk : (k : Int) + 1 ≤ 3000 := by omega
 have hk0 : (k : Int) ≤ 3000 := by omega
 have R := hI ((RunT.set hr2.1 hc2 h1).more (show k + 1 ≤ hi + 1 by omega))
 have cs : ((((w.alloc (.cells #[p0, .int .i64 n] 112)).alloc (.cells #[q0, .int .i64 n] 112))).setCell ⟨g, 0, none⟩ (.int .i64 ((k + 1 : Nat) : Int))).cell? ⟨g, 0, none⟩ = some (.int .i64 ((k + 1 : Nat) : Int)) := (hc2.set (k + 1)).c0
 clear hc hg he hb hr2 hc2
 go_enter Tryz.func137, Tryz.ntmps137
 go_wp2_with fail
 go_ret
 exact ⟨rfl, R.out⟩
def eqN (s s' : Nm) : Bool := s.1.toList == s'.1.toList && s.2.toList == s'.2.toList
mutual
def eqT : Tm → Tm → Bool
 | .var s, .var s' => eqN s s'
 | .con o, .con o' => decide (o = o')
 | .app s l, .app s' l' => eqN s s' && eqTs l l'
 | _, _ => false
def eqTs : List Tm → List Tm → Bool
 | [], [] => true
 | t :: l, t' :: l' => eqT t t' && eqTs l l'
 | _, _ => false
end
theorem ba_eq {a b : ByteArray} (h : (a.toList == b.toList) = true) : a = b := by
 have h1 := eq_of_beq h
 rw [Lib.toList_data, Lib.toList_data] at h1
 apply ByteArray.ext
 exact Array.toList_inj.1 h1
theorem eqN_iff {s s' : Nm} : eqN s s' = true ↔ s = s' := by
 constructor
 · intro h
   unfold eqN at h
   rw [Bool.and_eq_true] at h
   exact Prod.ext (ba_eq h.1) (ba_eq h.2)
 · rintro rfl; unfold eqN; simp
mutual
theorem eqT_refl : ∀ t : Tm, eqT t t = true
 | .var s => by unfold eqT; exact eqN_iff.2 rfl
 | .con o => by unfold eqT; simp
 | .app s l => by unfold eqT; rw [eqN_iff.2 rfl, eqTs_refl l]; rfl
theorem eqTs_refl : ∀ l : List Tm, eqTs l l = true
 | [] => by unfold eqTs; rfl
 | t :: l => by unfold eqTs; rw [eqT_refl t, eqTs_refl l]; rfl
end
mutual
theorem TmAt.inj {w : World} {S S' : Nat → Prop} : ∀ (t t' : Tm) (cs : List Value), TmAt w S t cs → TmAt w S' t' cs → t = t'
 | .var s, t', cs, h, h' => by
  obtain ⟨v, A, c, e, hv, ha⟩ := h'.open
  unfold TmAt at h
  rw [h] at e
  simp only [cellsT, List.cons.injEq, Value.int.injEq, Value.string.injEq, true_and] at e
  cases t' with
  | var s' => rw [Prod.ext e.2.1 e.2.2.1]; rfl
  | con o => exact absurd e.1 (by simp [Tm.kd])
  | app s' l => exact absurd e.1 (by simp [Tm.kd])
 | .con o, t', cs, h, h' => by
  unfold TmAt at h
  obtain ⟨p, e1, hp⟩ := h
  obtain ⟨v, A, c, e, hv, ha⟩ := h'.open
  rw [e1] at e
  simp only [cellsT, List.cons.injEq, Value.int.injEq, Value.string.injEq, true_and] at e
  cases t' with
  | var s' => exact absurd e.1 (by simp [Tm.kd])
  | con o' =>
   obtain ⟨p', rfl, hp'⟩ := hv
   have h2 := (List.append_inj e.2.2.2 (by rw [cellsO_length, cellsO_length])).1
   rw [(cells_inj h2 hp hp').1]
  | app s' l => exact absurd e.1 (by simp [Tm.kd])
 | .app s l, t', cs, h, h' => by
  unfold TmAt at h
  obtain ⟨A, c, e1, hl, hA⟩ := h
  obtain ⟨v, A', c', e, hv, ha⟩ := h'.open
  rw [e1] at e
  simp only [cellsT, List.cons.injEq, Value.int.injEq, Value.string.injEq, true_and] at e
  cases t' with
  | var s' => exact absurd e.1 (by simp [Tm.kd])
  | con o' => exact absurd e.1 (by simp [Tm.kd])
  | app s' l' =>
   have e0 : v = zO := hv
   subst e0
   have h2 := (List.append_inj e.2.2.2 rfl).2
   simp only [List.cons.injEq, Value.slice.injEq, and_true] at h2
   obtain ⟨rfl, hlen, _⟩ := h2
   change l.length = l'.length at hlen
   have es : s = s' := Prod.ext e.2.1 e.2.2.1
   rw [es]
   by_cases h0 : 0 < l.length
   · obtain ⟨b, o, rfl, _, hr⟩ := hA h0
     obtain ⟨b', o', e2, _, hr'⟩ := ha.2 (by show 0 < l'.length; omega)
     injection e2 with e2
     injection e2 with e3 e4
     subst e3 e4
     rw [TmsAt.inj b o l l' hlen hr hr']
   · have e3 : l = [] := List.length_eq_zero_iff.1 (by omega)
     have e4 : l' = [] := List.length_eq_zero_iff.1 (by omega)
     rw [e3, e4]
theorem TmsAt.inj {w : World} {S S' : Nat → Prop} (b o : Nat) : ∀ (l l' : List Tm), l.length = l'.length → TmsAt w S b o l → TmsAt w S' b o l' → l = l'
 | [], [], _, _, _ => rfl
 | [], _ :: _, h, _, _ => by simp at h
 | _ :: _, [], h, _, _ => by simp at h
 | t :: l, t' :: l', h, h1, h2 => by
  unfold TmsAt at h1 h2
  obtain ⟨⟨cs, k1, k2⟩, k3⟩ := h1
  obtain ⟨⟨cs', j1, j2⟩, j3⟩ := h2
  have ec : cs = cs' := by
   apply List.ext_getElem?
   intro j
   by_cases hj : j < 11
   · have l1 : j < cs.length := by rw [k1.length]; exact hj
     have l2 : j < cs'.length := by rw [j1.length]; exact hj
     have e1 := k2 j _ (List.getElem?_eq_getElem l1)
     have e2 := j2 j _ (List.getElem?_eq_getElem l2)
     rw [List.getElem?_eq_getElem l1, List.getElem?_eq_getElem l2, ← e1, ← e2]
   · rw [List.getElem?_eq_none (by rw [k1.length]; omega), List.getElem?_eq_none (by rw [j1.length]; omega)]
  subst ec
  rw [TmAt.inj t t' cs k1 j1, TmsAt.inj b (o + 11) l l' (by simpa using h) k3 j3]
end
def AsV (w : World) (S : Nat → Prop) (l : List (Nm × Tm)) (v : Value) : Prop := ∃ A c, v = .slice A l.length c ∧ l.length ≤ c ∧
 (0 < l.length → ∃ b o, A = some ⟨b, o, none⟩ ∧ (S b ∧ Plain w b) ∧ ∀ i (hi : i < l.length), ∃ cs, TmAt w S l[i].2 cs ∧ ∀ j u, (Value.string l[i].1.1 :: Value.string l[i].1.2 :: cs)[j]? = some u → w.cell? ⟨b, o + i * 13 + j, none⟩ = some u)
theorem AsV.keep {w w' : World} {S S' : Nat → Prop} (hS : ∀ b, S b → S' b) (hk : ∀ b, S b → w'.heap[b]? = w.heap[b]?) {l : List (Nm × Tm)} {v : Value} (h : AsV w S l v) : AsV w' S' l v := by
 obtain ⟨A, c, h1, h2, h3⟩ := h
 refine ⟨A, c, h1, h2, fun hl => ?_⟩
 obtain ⟨b, o, e, hb, hr⟩ := h3 hl
 refine ⟨b, o, e, ⟨hS b hb.1, hb.2.keep (hk b hb.1)⟩, fun i hi => ?_⟩
 obtain ⟨cs, k1, k2⟩ := hr i hi
 exact ⟨cs, TmAt.keep hS hk _ _ k1, fun j u hj => (World.cell?_of_block (a := ⟨b, o + i * 13 + j, none⟩) (hk b hb.1)).trans (k2 j u hj)⟩
theorem AsV.below {w w' : World} {S : Nat → Prop} {B : Nat} {l : List (Nm × Tm)} {v : Value} (h : AsV w S l v) (hS : ∀ b, S b → b < B) (hb : Below B w w') : AsV w' S l v := h.keep (fun _ h => h) fun q hq => hb.block q (hS q hq)
theorem AsV.more {w : World} {S S' : Nat → Prop} {l : List (Nm × Tm)} {v : Value} (h : AsV w S l v) (hS : ∀ b, S b → S' b) : AsV w S' l v := h.keep hS fun _ _ => rfl
def findA : List (Nm × Tm) → Nm → Option Tm
 | [], _ => none
 | a :: r, n => if eqN a.1 n = true then some a.2 else findA r n
theorem findA_drop {l : List (Nm × Tm)} {i : Nat} (hi : i < l.length) (n : Nm) : findA (l.drop i) n = if eqN l[i].1 n = true then some l[i].2 else findA (l.drop (i + 1)) n := by rw [List.drop_eq_getElem_cons hi]; rfl
mutual
def subT (s : List (Nm × Tm)) : Tm → Tm
 | .var x => match findA s x with
  | some t => t
  | none => .var x
 | .con o => .con o
 | .app f l => .app f (subTs s l)
def subTs (s : List (Nm × Tm)) : List Tm → List Tm
 | [] => []
 | t :: l => subT s t :: subTs s l
end
mutual
def chS (s : List (Nm × Tm)) : Tm → Bool
 | .var x => (findA s x).isSome
 | .con _ => false
 | .app _ l => chSs s l
def chSs (s : List (Nm × Tm)) : List Tm → Bool
 | [] => false
 | t :: l => chS s t || chSs s l
end
theorem subTs_map (s : List (Nm × Tm)) : ∀ l, subTs s l = l.map (subT s)
 | [] => by unfold subTs; rfl
 | t :: l => by unfold subTs; rw [subTs_map s l]; rfl
theorem chSs_any (s : List (Nm × Tm)) : ∀ l, chSs s l = l.any (chS s)
 | [] => by unfold chSs; rfl
 | t :: l => by unfold chSs; rw [chSs_any s l]; rfl
mutual
theorem sub_same (s : List (Nm × Tm)) : ∀ t, chS s t = false → subT s t = t
 | .var x, h => by
  unfold chS at h
  unfold subT
  cases hf : findA s x with
  | none => rfl
  | some t => rw [hf] at h; cases h
 | .con o, _ => by unfold subT; rfl
 | .app f l, h => by
  unfold chS at h
  unfold subT
  rw [subs_same s l h]
theorem subs_same (s : List (Nm × Tm)) : ∀ l, chSs s l = false → subTs s l = l
 | [], _ => by unfold subTs; rfl
 | t :: l, h => by
  unfold chSs at h
  rw [Bool.or_eq_false_iff] at h
  unfold subTs
  rw [sub_same s t h.1, subs_same s l h.2]
end
theorem sub_ptM (s : List (Nm × Tm)) (t : Tm) (h : t.kd ≠ 1) : subT s t = ptM (subT s) t ∧ chS s t = chM (chS s) t := by
 cases t with
 | var x => exact absurd rfl h
 | con o => exact ⟨by unfold subT ptM; rfl, by unfold chS chM; rfl⟩
 | app f l => exact ⟨by unfold subT ptM; rw [subTs_map], by unfold chS chM; rw [chSs_any]⟩
theorem arr12 (a b c : Value) : #[a] ++ #[b, c] = #[a, b, c] := rfl
structure SubC (Y : World) (S : Nat → Prop) (ge Be Bs : Nat) (s : List (Nm × Tm)) (sv : Value) : Prop where
 ed : EdAt Y ge 76 #[.pointer (some ⟨Be, 0, none⟩), .pointer (some ⟨Bs, 0, none⟩)]
 ce : Y.cell? ⟨Be, 0, none⟩ = some (.pointer (some ⟨ge, 0, none⟩))
 cs : Y.cell? ⟨Bs, 0, none⟩ = some sv
 sl : AsV Y S s sv
 hS : In S Y
theorem SubC.keep {Y Y' : World} {S : Nat → Prop} {ge Be Bs : Nat} {s : List (Nm × Tm)} {sv : Value} (h : SubC Y S ge Be Bs s sv) (hb : Below Y.heap.size Y Y') : SubC Y' S ge Be Bs s sv :=
 ⟨h.ed.keep hb, (hb.cell (p := ⟨Be, 0, none⟩) (World.block_lt_of_cell? Y _ h.ce)).trans h.ce, (hb.cell (p := ⟨Bs, 0, none⟩) (World.block_lt_of_cell? Y _ h.cs)).trans h.cs, h.sl.below h.hS hb, h.hS.later hb.size⟩
def FdW (g : Nat) (W wo : World) (s : List (Nm × Tm)) (n : Nm) (i : Nat) (R : Option Tm) : Prop := findA (s.drop i) n = R ∧ Below W.heap.size W wo ∧ TB wo g zT
def optT (R : Option Tm) (x : Nm) : Tm := match R with
 | some t => t
 | none => .var x
theorem subVar (s : List (Nm × Tm)) (sv : Value) (Be Bs ge : Nat) (S : Nat → Prop) (x : Nm) (W : World) (C : SubC W S ge Be Bs s sv) (b k : Nat) (cs : List Value) (hQ : TmQ W S (.var x) b k cs) (hs : s.length ≤ 100000) :
 Calls Tryz.prog 76 #[.pointer (some ⟨b, k, none⟩), .pointer (some ⟨Be, 0, none⟩), .pointer (some ⟨Bs, 0, none⟩)] W (RetTB W S (subT s (.var x)) (chS s (.var x))) := by
 have hA := below_alT W (.cells #[.int .i64 0, .string ⟨#[]⟩, .string ⟨#[]⟩, .int .i64 0, .string ⟨#[]⟩, .string ⟨#[]⟩, .string ⟨#[]⟩, .string ⟨#[]⟩, .string ⟨#[]⟩, .slice none 0 0, .slice none 0 0] 35)
 have C2 := C.keep hA
 have hQ2 := hQ.below C.hS hA
 have B4 : TB (W.alloc (.cells #[.int .i64 0, .string ⟨#[]⟩, .string ⟨#[]⟩, .int .i64 0, .string ⟨#[]⟩, .string ⟨#[]⟩, .string ⟨#[]⟩, .string ⟨#[]⟩, .string ⟨#[]⟩, .slice none 0 0, .slice none 0 0] 35)) W.heap.size zT := heap_alloc_new W _
 obtain ⟨x0, x1, x2, x3, x4, x5, x6, A9, c9, ecs, hv, _, l0, l1, l2, l3, l4, l5, l6, l7, l8, l9, l10⟩ := hQ2.cells
 have hx6 : [x0, x1, x2, x3, x4, x5, x6] = zO := hv
 unfold zO at hx6
 simp only [List.cons.injEq, and_true] at hx6
 obtain ⟨rfl, rfl, rfl, rfl, rfl, rfl, rfl⟩ := hx6
 change _ = some (Value.int .i64 1) at l0
 change _ = some (Value.string x.1) at l1
 change _ = some (Value.string x.2) at l2
 change _ = some (Value.slice A9 0 c9) at l10
 subst ecs
 obtain ⟨A, c, rfl, hlc, hsA⟩ := C2.sl
 have cS := C2.cs
 have hlb : b < (W.alloc (.cells #[.int .i64 0, .string ⟨#[]⟩, .string ⟨#[]⟩, .int .i64 0, .string ⟨#[]⟩, .string ⟨#[]⟩, .string ⟨#[]⟩, .string ⟨#[]⟩, .string ⟨#[]⟩, .slice none 0 0, .slice none 0 0] 35)).heap.size := hQ2.1.1
 have hlS : Bs < (W.alloc (.cells #[.int .i64 0, .string ⟨#[]⟩, .string ⟨#[]⟩, .int .i64 0, .string ⟨#[]⟩, .string ⟨#[]⟩, .string ⟨#[]⟩, .string ⟨#[]⟩, .string ⟨#[]⟩, .slice none 0 0, .slice none 0 0] 35)).heap.size := World.block_lt_of_cell? _ _ cS
 have HQT := hI hQ2.2.1
 have HSA := hI hsA
 have HSin := hI C2.hS
 have HA := hI hA
 have HS0 := hI C.hS
 have HLB := hI hlb
 have HLS := hI hlS
 have HCS := hI cS
 obtain ⟨R, hR⟩ : ∃ R, findA s x = R := ⟨_, rfl⟩
 have HRES : Hid (subT s (.var x) = optT R x ∧ chS s (.var x) = R.isSome) := ⟨by unfold subT optT; rw [hR], by unfold chS; rw [hR]⟩
 rw [HRES.out.1, HRES.out.2]
 have HCL : Hid (∀ X, Below (W.alloc (.cells #[.int .i64 0, .string ⟨#[]⟩, .string ⟨#[]⟩, .int .i64 0, .string ⟨#[]⟩, .string ⟨#[]⟩, .string ⟨#[]⟩, .string ⟨#[]⟩, .string ⟨#[]⟩, .slice none 0 0, .slice none 0 0] 35)).heap.size (W.alloc (.cells #[.int .i64 0, .string ⟨#[]⟩, .string ⟨#[]⟩, .int .i64 0, .string ⟨#[]⟩, .string ⟨#[]⟩, .string ⟨#[]⟩, .string ⟨#[]⟩, .string ⟨#[]⟩, .slice none 0 0, .slice none 0 0] 35)) X → X.cell? ⟨b, k, none⟩ = some (Value.int .i64 1) ∧ X.cell? ⟨b, k + 1, none⟩ = some (.string x.1) ∧ X.cell? ⟨b, k + 2, none⟩ = some (.string x.2) ∧ X.cell? ⟨b, k + 3, none⟩ = some (Value.int .i64 0) ∧ X.cell? ⟨b, k + 4, none⟩ = some (Value.string ⟨#[]⟩) ∧ X.cell? ⟨b, k + 5, none⟩ = some (Value.string ⟨#[]⟩) ∧ X.cell? ⟨b, k + 6, none⟩ = some (Value.string ⟨#[]⟩) ∧ X.cell? ⟨b, k + 7, none⟩ = some (Value.string ⟨#[]⟩) ∧ X.cell? ⟨b, k + 8, none⟩ = some (Value.string ⟨#[]⟩) ∧ X.cell? ⟨b, k + 9, none⟩ = some (Value.slice none 0 0) ∧ X.cell? ⟨b, k + 10, none⟩ = some (Value.slice A9 0 c9)) := fun X hX =>
  ⟨(hX.cell (p := ⟨b, k, none⟩) hlb).trans l0, (hX.cell (p := ⟨b, k + 1, none⟩) hlb).trans l1, (hX.cell (p := ⟨b, k + 2, none⟩) hlb).trans l2, (hX.cell (p := ⟨b, k + 3, none⟩) hlb).trans l3, (hX.cell (p := ⟨b, k + 4, none⟩) hlb).trans l4, (hX.cell (p := ⟨b, k + 5, none⟩) hlb).trans l5, (hX.cell (p := ⟨b, k + 6, none⟩) hlb).trans l6, (hX.cell (p := ⟨b, k + 7, none⟩) hlb).trans l7, (hX.cell (p := ⟨b, k + 8, none⟩) hlb).trans l8, (hX.cell (p := ⟨b, k + 9, none⟩) hlb).trans l9, (hX.cell (p := ⟨b, k + 10, none⟩) hlb).trans l10⟩
 obtain ⟨L, hL⟩ : ∃ L, s.length = L := ⟨_, rfl⟩
 rw [hL] at hs hlc cS
 have HCS2 : Hid ((W.alloc (.cells #[.int .i64 0, .string ⟨#[]⟩, .string ⟨#[]⟩, .int .i64 0, .string ⟨#[]⟩, .string ⟨#[]⟩, .string ⟨#[]⟩, .string ⟨#[]⟩, .string ⟨#[]⟩, .slice none 0 0, .slice none 0 0] 35)).cell? ⟨Bs, 0, none⟩ = some (.slice A L c)) := cS
 have HL := hI hL
 have h0 : Hid (FdW W.heap.size (W.alloc (.cells #[.int .i64 0, .string ⟨#[]⟩, .string ⟨#[]⟩, .int .i64 0, .string ⟨#[]⟩, .string ⟨#[]⟩, .string ⟨#[]⟩, .string ⟨#[]⟩, .string ⟨#[]⟩, .slice none 0 0, .slice none 0 0] 35)) (W.alloc (.cells #[.int .i64 0, .string ⟨#[]⟩, .string ⟨#[]⟩, .int .i64 0, .string ⟨#[]⟩, .string ⟨#[]⟩, .string ⟨#[]⟩, .string ⟨#[]⟩, .string ⟨#[]⟩, .slice none 0 0, .slice none 0 0] 35)) s x 0 R) := ⟨by rw [List.drop_zero]; exact hR, Below.refl _ _, B4⟩
 clear l1 l2 l3 l4 l5 l6 l7 l8 l9 l10 hQ hQ2 C C2 hsA hA hlb hlS hR hL HRES hv HCS
 go_enter Tryz.func76, Tryz.ntmps76
 go_wp2_with fail
 generalize (W.alloc (.cells #[.int .i64 0, .string ⟨#[]⟩, .string ⟨#[]⟩, .int .i64 0, .string ⟨#[]⟩, .string ⟨#[]⟩, .string ⟨#[]⟩, .string ⟨#[]⟩, .string ⟨#[]⟩, .slice none 0 0, .slice none 0 0] 35)) = Y at *
 go_loopw [19] (fun v wr => ∃ (i : Nat), i ≤ L ∧ v = .int .i64 (i : Int) ∧ Hid (FdW W.heap.size Y wr s x i R)) (fun v _ => L - (intOf v).toNat)
 case atStart => exact ⟨0, Nat.zero_le _, rfl, h0⟩
 case round =>
  clear h0
  obtain ⟨i, hi, rfl, hE⟩ := hrel
  obtain ⟨wo, rfl⟩ : ∃ wo : World, wo = wr := ⟨_, rfl⟩
  obtain ⟨hf, hb0, hg⟩ := hE.out
  clear hE
  have cs0 := (hb0.cell (p := ⟨Bs, 0, none⟩) HLS.out).trans HCS2.out
  by_cases hlt : i < L
  · have hil : i < s.length := by rw [HL.out]; exact hlt
    obtain ⟨b1, o1, rfl, hS1, hcell⟩ := HSA.out (by omega)
    obtain ⟨cs1, ht1, hc1⟩ := hcell i hil
    obtain ⟨y0, y1, y2, y3, y4, y5, y6, A1, c1', rfl, hv1, ha1⟩ := ht1.eleven
    have hlb1 : b1 < Y.heap.size := HSin.out b1 hS1.1
    have LF : ∀ j u, (Value.string s[i].1.1 :: Value.string s[i].1.2 :: [Value.int .i64 s[i].2.kd, .string s[i].2.nm.1, .string s[i].2.nm.2, y0, y1, y2, y3, y4, y5, y6, .slice A1 s[i].2.args.length c1'])[j]? = some u → wo.cell? ⟨b1, o1 + i * 13 + j, none⟩ = some u := fun j u hj => (hb0.cell (p := ⟨b1, o1 + i * 13 + j, none⟩) hlb1).trans (hc1 j u hj)
    have k0 := LF 0 _ rfl
    have k1 := LF 1 _ rfl
    have k2 := LF 2 _ rfl
    have k3 := LF 3 _ rfl
    have k4 := LF 4 _ rfl
    have k5 := LF 5 _ rfl
    have k6 := LF 6 _ rfl
    have k7 := LF 7 _ rfl
    have k8 := LF 8 _ rfl
    have k9 := LF 9 _ rfl
    have k10 := LF 10 _ rfl
    have k11 := LF 11 _ rfl
    have k12 := LF 12 _ rfl
    rw [Nat.add_zero] at k0
    obtain ⟨c0, c1, c2, c3, c4, c5, c6, c7, c8, c9', c10⟩ := HCL.out wo hb0
    have step := findA_drop hil x
    rw [hf] at step
    have HT1 := hI ht1
    have O1 := hI ht1.o11
    have HB := hI hb0
    have HG := hI hg
    unfold eqN at step
    clear hf hcell hc1 LF hb0 hg ha1 hv1
    cases h1 : (s[i].1.1.toList == x.1.toList) with
    | false =>
     rw [h1] at step
     have HST : Hid (findA (s.drop (i + 1)) x = R) := (show findA (s.drop (i + 1)) x = R from by rw [step]; simp)
     clear step
     go_wp2_with fail
     go_quiet (fail)
     go_wp2
     go_roundw
     case rel => exact ⟨i + 1, by omega, by go_num, ⟨HST.out, HB.out.trans ((below_dn _ _).mono HB.out.size), HG.out.keep (below_dn _ _)⟩⟩
     case measure => simp [intOf]; omega
    | true =>
     cases h2 : (s[i].1.2.toList == x.2.toList) with
     | false =>
      rw [h1, h2] at step
      have HST : Hid (findA (s.drop (i + 1)) x = R) := (show findA (s.drop (i + 1)) x = R from by rw [step]; simp)
      clear step
      go_wp2_with fail
      go_quiet (fail)
      go_wp2
      go_roundw
      case rel => exact ⟨i + 1, by omega, by go_num, ⟨HST.out, HB.out.trans ((below_dn _ _).mono HB.out.size), HG.out.keep (below_dn _ _)⟩⟩
      case measure => simp [intOf]; omega
     | true =>
      rw [h1, h2] at step
      have hR : R = some s[i].2 := by rw [step]; simp
      subst hR
      clear step
      have HRS : Hid (optT (some s[i].2) x = s[i].2 ∧ (some s[i].2).isSome = true) := ⟨rfl, rfl⟩
      rw [HRS.out.1, HRS.out.2]
      go_wp2_with fail
      go_quiet (fail)
      change (wo.drewN nq).cell? _ = _ at k2 k3 k4 k5 k6 k7 k8 k9 k10 k11 k12
      have HBn : Hid (Below Y.heap.size Y (wo.drewN nq)) := HB.out.trans ((below_dn _ _).mono HB.out.size)
      have HGn : Hid (TB (wo.drewN nq) W.heap.size zT) := HG.out.keep (below_dn _ _)
      clear c0 c1 c2 c3 c4 c5 c6 c7 c8 c9' c10 k0 k1 HB HG
      have cs1 : (wo.drewN nq).cell? ⟨Bs, 0, none⟩ = some (.slice (some ⟨b1, o1, none⟩) L c) := cs0
      clear cs0
      generalize wo.drewN nq = wn at *
      have HTn := hI ((HT1.out.below HSin.out HBn.out).more fun b hb => (show Upto W wn S b from .inl hb))
      go_wp2_with ((with_reducible refine storeTb (cs := [Value.int .i64 s[i].2.kd, .string s[i].2.nm.1, .string s[i].2.nm.2, y0, y1, y2, y3, y4, y5, y6, .slice A1 s[i].2.args.length c1']) (.tmp 4) (.tmp 36) ?_ ?_ ?_ ?_ HGn.out ?_ ?_ ?_ ?_); rfl; rfl; rfl; rfl; rfl; rfl; exact O1.out.2)
      exact retTbx rfl rfl rfl (HGn.out.set _) rfl (RetTB.mk (below_setRowO (HA.out.trans (HBn.out.mono HA.out.size)) (Nat.le_refl _) _) (TmAt.boxed HTn.out HGn.out.nb _))
  · have hiL : i = L := by omega
    have hn2 : ¬ (i : Int) < L := by omega
    have hR : R = none := by
     rw [← hf, hiL, ← HL.out, List.drop_length]; rfl
    subst hR
    have HRS : Hid (optT none x = .var x ∧ (none : Option Tm).isSome = false) := ⟨rfl, rfl⟩
    rw [HRS.out.1, HRS.out.2]
    obtain ⟨c0, c1, c2, c3, c4, c5, c6, c7, c8, c9', c10⟩ := HCL.out wo hb0
    have HB := hI hb0
    have HG := hI hg
    have O1 := hI HQT.out.o11
    have HTn := hI ((HQT.out.below HSin.out hb0).more fun b hb => (show Upto W wo S b from .inl hb))
    clear hf hb0 hg hiL hlt
    go_wp2_with ((with_reducible refine storeTb (cs := [Value.int .i64 1, .string x.1, .string x.2, .int .i64 0, .string ⟨#[]⟩, .string ⟨#[]⟩, .string ⟨#[]⟩, .string ⟨#[]⟩, .string ⟨#[]⟩, .slice none 0 0, .slice A9 0 c9]) (.tmp 4) (.tmp 40) ?_ ?_ ?_ ?_ HG.out ?_ ?_ ?_ ?_); rfl; rfl; rfl; rfl; rfl; rfl; exact O1.out.2)
    exact retTbx rfl rfl rfl (HG.out.set _) rfl (RetTB.mk (below_setRowO (HA.out.trans (HB.out.mono HA.out.size)) (Nat.le_refl _) _) (TmAt.boxed HTn.out HG.out.nb _))
theorem subNon (ed : Tm → Tm) (ch : Tm → Bool) (Be Bs ge : Nat) (S : Nat → Prop) (t : Tm) (W : World) (hS : In S W) (hce : W.cell? ⟨Be, 0, none⟩ = some (.pointer (some ⟨ge, 0, none⟩))) (b k : Nat) (cs : List Value) (hQ : TmQ W S t b k cs) (hk : t.kd ≠ 1)
 (hp : ∀ W', Below W.heap.size W W' → Calls Tryz.prog 77 #[.pointer (some ⟨ge, 0, none⟩), .pointer (some ⟨b, k, none⟩)] W' (RetTB W' S (ed t) (ch t))) :
 Calls Tryz.prog 76 #[.pointer (some ⟨b, k, none⟩), .pointer (some ⟨Be, 0, none⟩), .pointer (some ⟨Bs, 0, none⟩)] W (RetTB W S (ed t) (ch t)) := by
 have hA := below_alT W (.cells #[.int .i64 0, .string ⟨#[]⟩, .string ⟨#[]⟩, .int .i64 0, .string ⟨#[]⟩, .string ⟨#[]⟩, .string ⟨#[]⟩, .string ⟨#[]⟩, .string ⟨#[]⟩, .slice none 0 0, .slice none 0 0] 35)
 have hQ2 := hQ.below hS hA
 have B4 : TB (W.alloc (.cells #[.int .i64 0, .string ⟨#[]⟩, .string ⟨#[]⟩, .int .i64 0, .string ⟨#[]⟩, .string ⟨#[]⟩, .string ⟨#[]⟩, .string ⟨#[]⟩, .string ⟨#[]⟩, .slice none 0 0, .slice none 0 0] 35)) W.heap.size zT := heap_alloc_new W _
 obtain ⟨x0, x1, x2, x3, x4, x5, x6, A9, c9, ecs, hv, _, l0, l1, l2, l3, l4, l5, l6, l7, l8, l9, l10⟩ := hQ2.cells
 have ce := (hA.cell (p := ⟨Be, 0, none⟩) (World.block_lt_of_cell? W _ hce)).trans hce
 have HP := hI (hp _ hA)
 have hkn : (t.kd != 1) = true := by rw [bne_iff_ne]; exact hk
 have HA := hI hA
 have HB4 := hI B4
 have HS := hI hS
 generalize t.kd = K at l0 hkn
 generalize ed t = u at HP ⊢
 generalize ch t = r at HP ⊢
 clear l1 l2 l3 l4 l5 l6 l7 l8 l9 l10 hQ hQ2 hA B4 hv ecs hp hk hce hS
 go_enter Tryz.func76, Tryz.ntmps76
 go_wp2_with fail
 generalize (W.alloc (.cells #[.int .i64 0, .string ⟨#[]⟩, .string ⟨#[]⟩, .int .i64 0, .string ⟨#[]⟩, .string ⟨#[]⟩, .string ⟨#[]⟩, .string ⟨#[]⟩, .string ⟨#[]⟩, .slice none 0 0, .slice none 0 0] 35)) = Y at *
 refine HP.out.mono ?_
 rintro e w3 ⟨cs3, rfl, h3, hb3⟩
 have O3 := hI h3.o11
 have HB := hI (HB4.out.keep hb3)
 have H3 : Hid (TmAt w3 (Upto W w3 S) u cs3) := h3.more fun q hq => up3 HA.out (Below.refl _ _) q hq
 have HW := hI (HA.out.trans (hb3.mono HA.out.size))
 clear h3 hb3 ce l0
 go_wp2_with ((with_reducible refine storeTb (cs := cs3) (.tmp 4) (.tmp 15) ?_ ?_ ?_ ?_ HB.out ?_ ?_ ?_ ?_); rfl; rfl; rfl; rfl; rfl; exact O3.out.1; exact O3.out.2)
 exact retTbx rfl rfl rfl (HB.out.set _) O3.out.1 (RetTB.mk (below_setRowO HW.out (Nat.le_refl _) _) (TmAt.boxed H3.out HB.out.nb _))
theorem sub_hcf (Be Bs : Nat) (v : Value) (W : World) : (callFunc 76 (#[v] ++ #[.pointer (some ⟨Be, 0, none⟩), .pointer (some ⟨Bs, 0, none⟩)])).run Tryz.prog W = .ok (.enter 76 (#[v] ++ #[.pointer (some ⟨Be, 0, none⟩), .pointer (some ⟨Bs, 0, none⟩)])) W := by
 rw [arr12]
 go_simp
theorem subC (s : List (Nm × Tm)) (sv : Value) (Be Bs ge : Nat) (S : Nat → Prop) (hs : s.length ≤ 100000) : ∀ (t : Tm) (W : World) (b k : Nat) (cs : List Value), SubC W S ge Be Bs s sv → t.nodes ≤ 3000 → TmQ W S t b k cs →
 Calls Tryz.prog 76 (#[.pointer (some ⟨b, k, none⟩)] ++ #[.pointer (some ⟨Be, 0, none⟩), .pointer (some ⟨Bs, 0, none⟩)]) W (RetTB W S (subT s t) (chS s t)) := by
 intro t
 induction t using Tm.ind with
 | hv x => intro W b k cs C hn hQ; rw [arr12]; exact subVar s sv Be Bs ge S x W C b k cs hQ hs
 | hc o =>
  intro W b k cs C hn hQ
  rw [arr12]
  have e := sub_ptM s (.con o) (by simp [Tm.kd])
  refine subNon (subT s) (chS s) Be Bs ge S (.con o) W C.hS C.ce b k cs hQ (by simp [Tm.kd]) fun W' hw => ?_
  rw [e.1, e.2]
  exact partsE _ _ (subT s) (chS s) (.con o) b k ge cs W' S (C.hS.later hw.size) (C.ed.keep hw) (hQ.below C.hS hw) hn (sub_hcf Be Bs) (fun x hx => by simp [Tm.args] at hx) (fun x hx => by simp [Tm.args] at hx)
 | ha f l ih =>
  intro W b k cs C hn hQ
  rw [arr12]
  have e := sub_ptM s (.app f l) (by simp [Tm.kd])
  refine subNon (subT s) (chS s) Be Bs ge S (.app f l) W C.hS C.ce b k cs hQ (by simp [Tm.kd]) fun W' hw => ?_
  rw [e.1, e.2]
  have h2 : (Tm.app f l).nodes = 1 + Tm.nodesL l := (by unfold Tm.nodes; rfl)
  exact partsE _ _ (subT s) (chS s) (.app f l) b k ge cs W' S (C.hS.later hw.size) (C.ed.keep hw) (hQ.below C.hS hw) hn (sub_hcf Be Bs) (fun x hx W2 b2 k2 cs2 hw2 hq2 => ih x hx W2 b2 k2 cs2 ((C.keep hw).keep hw2) (by have := Tm.nodes_mem (show x ∈ l from hx); omega) hq2) (fun x _ h => sub_same s x h)
theorem substituteP (s : List (Nm × Tm)) (sv : Value) (t : Tm) (cs : List Value) (w : World) (S : Nat → Prop) (hS : In S w) (h : TmAt w S t cs) (hsv : AsV w S s sv) (hn : t.nodes ≤ 3000) (hs : s.length ≤ 100000) :
 Calls Tryz.prog 33 #[vTm cs, sv] w (RetT w S (subT s t)) := by
 have h1 := h
 obtain ⟨x0, x1, x2, x3, x4, x5, x6, A, c, rfl, _, _⟩ := h1.eleven
 have hsv' := hsv
 obtain ⟨A2, c2, rfl, _⟩ := hsv'
 have hA5 : Below w.heap.size w (((((w.alloc (.cells #[.int .i64 t.kd, .string t.nm.1, .string t.nm.2, x0, x1, x2, x3, x4, x5, x6, .slice A t.args.length c] 35)).alloc (.cells #[.slice A2 s.length c2] 50)).alloc (.cells #[.int .i64 0, .string ⟨#[]⟩, .string ⟨#[]⟩, .int .i64 0, .string ⟨#[]⟩, .string ⟨#[]⟩, .string ⟨#[]⟩, .string ⟨#[]⟩, .string ⟨#[]⟩, .slice none 0 0, .slice none 0 0] 35)).alloc (.cells #[.nilFunc, .pointer none] 99)).alloc (.cells #[.pointer (some ⟨w.heap.size + 1 + 1 + 1, 0, none⟩)] 95)) := Below.alloc (Below.alloc (Below.alloc (Below.alloc (Below.alloc (Below.refl _ _) (Nat.le_refl _) _) (by simp) _) (by simp <;> omega) _) (by simp <;> omega) _) (by simp <;> omega) _
 have E5 : (((((w.alloc (.cells #[.int .i64 t.kd, .string t.nm.1, .string t.nm.2, x0, x1, x2, x3, x4, x5, x6, .slice A t.args.length c] 35)).alloc (.cells #[.slice A2 s.length c2] 50)).alloc (.cells #[.int .i64 0, .string ⟨#[]⟩, .string ⟨#[]⟩, .int .i64 0, .string ⟨#[]⟩, .string ⟨#[]⟩, .string ⟨#[]⟩, .string ⟨#[]⟩, .string ⟨#[]⟩, .slice none 0 0, .slice none 0 0] 35)).alloc (.cells #[.nilFunc, .pointer none] 99)).alloc (.cells #[.pointer (some ⟨w.heap.size + 1 + 1 + 1, 0, none⟩)] 95)).heap[w.heap.size + 1 + 1 + 1]? = some (.cells #[.nilFunc, .pointer none] 99 (0, 0)) := (Below.heap_alloc _ _ _ (by simp)).trans (heap_new_at (by simp))
 have f0 : (((((w.alloc (.cells #[.int .i64 t.kd, .string t.nm.1, .string t.nm.2, x0, x1, x2, x3, x4, x5, x6, .slice A t.args.length c] 35)).alloc (.cells #[.slice A2 s.length c2] 50)).alloc (.cells #[.int .i64 0, .string ⟨#[]⟩, .string ⟨#[]⟩, .int .i64 0, .string ⟨#[]⟩, .string ⟨#[]⟩, .string ⟨#[]⟩, .string ⟨#[]⟩, .string ⟨#[]⟩, .slice none 0 0, .slice none 0 0] 35)).alloc (.cells #[.nilFunc, .pointer none] 99)).alloc (.cells #[.pointer (some ⟨w.heap.size + 1 + 1 + 1, 0, none⟩)] 95)).frozen? ⟨w.heap.size + 1 + 1 + 1, 0, none⟩ = false := by simp only [World.frozen?, E5]; rfl
 have e0 : (((((w.alloc (.cells #[.int .i64 t.kd, .string t.nm.1, .string t.nm.2, x0, x1, x2, x3, x4, x5, x6, .slice A t.args.length c] 35)).alloc (.cells #[.slice A2 s.length c2] 50)).alloc (.cells #[.int .i64 0, .string ⟨#[]⟩, .string ⟨#[]⟩, .int .i64 0, .string ⟨#[]⟩, .string ⟨#[]⟩, .string ⟨#[]⟩, .string ⟨#[]⟩, .string ⟨#[]⟩, .slice none 0 0, .slice none 0 0] 35)).alloc (.cells #[.nilFunc, .pointer none] 99)).alloc (.cells #[.pointer (some ⟨w.heap.size + 1 + 1 + 1, 0, none⟩)] 95)).cell? ⟨w.heap.size + 1 + 1 + 1, 0, none⟩ = some .nilFunc := by rw [cell_of_row _ _ _ _ _ _ E5]; rfl
 have hsz : (((((w.alloc (.cells #[.int .i64 t.kd, .string t.nm.1, .string t.nm.2, x0, x1, x2, x3, x4, x5, x6, .slice A t.args.length c] 35)).alloc (.cells #[.slice A2 s.length c2] 50)).alloc (.cells #[.int .i64 0, .string ⟨#[]⟩, .string ⟨#[]⟩, .int .i64 0, .string ⟨#[]⟩, .string ⟨#[]⟩, .string ⟨#[]⟩, .string ⟨#[]⟩, .string ⟨#[]⟩, .slice none 0 0, .slice none 0 0] 35)).alloc (.cells #[.nilFunc, .pointer none] 99)).alloc (.cells #[.pointer (some ⟨w.heap.size + 1 + 1 + 1, 0, none⟩)] 95)).heap.size = w.heap.size + 5 := by simp
 have e6 := setCell_eq_setRow (((((w.alloc (.cells #[.int .i64 t.kd, .string t.nm.1, .string t.nm.2, x0, x1, x2, x3, x4, x5, x6, .slice A t.args.length c] 35)).alloc (.cells #[.slice A2 s.length c2] 50)).alloc (.cells #[.int .i64 0, .string ⟨#[]⟩, .string ⟨#[]⟩, .int .i64 0, .string ⟨#[]⟩, .string ⟨#[]⟩, .string ⟨#[]⟩, .string ⟨#[]⟩, .string ⟨#[]⟩, .slice none 0 0, .slice none 0 0] 35)).alloc (.cells #[.nilFunc, .pointer none] 99)).alloc (.cells #[.pointer (some ⟨w.heap.size + 1 + 1 + 1, 0, none⟩)] 95)) (w.heap.size + 1 + 1 + 1) 0 _ 99 (0, 0) (.func (.func 76) #[] #[.pointer (some ⟨w.heap.size + 1 + 1 + 1 + 1, 0, none⟩), .pointer (some ⟨w.heap.size + 1, 0, none⟩)]) E5
 have ho : ∀ q, q ≠ w.heap.size + 1 + 1 + 1 → ((((((w.alloc (.cells #[.int .i64 t.kd, .string t.nm.1, .string t.nm.2, x0, x1, x2, x3, x4, x5, x6, .slice A t.args.length c] 35)).alloc (.cells #[.slice A2 s.length c2] 50)).alloc (.cells #[.int .i64 0, .string ⟨#[]⟩, .string ⟨#[]⟩, .int .i64 0, .string ⟨#[]⟩, .string ⟨#[]⟩, .string ⟨#[]⟩, .string ⟨#[]⟩, .string ⟨#[]⟩, .slice none 0 0, .slice none 0 0] 35)).alloc (.cells #[.nilFunc, .pointer none] 99)).alloc (.cells #[.pointer (some ⟨w.heap.size + 1 + 1 + 1, 0, none⟩)] 95)).setCell ⟨w.heap.size + 1 + 1 + 1, 0, none⟩ (.func (.func 76) #[] #[.pointer (some ⟨w.heap.size + 1 + 1 + 1 + 1, 0, none⟩), .pointer (some ⟨w.heap.size + 1, 0, none⟩)])).heap[q]? = (((((w.alloc (.cells #[.int .i64 t.kd, .string t.nm.1, .string t.nm.2, x0, x1, x2, x3, x4, x5, x6, .slice A t.args.length c] 35)).alloc (.cells #[.slice A2 s.length c2] 50)).alloc (.cells #[.int .i64 0, .string ⟨#[]⟩, .string ⟨#[]⟩, .int .i64 0, .string ⟨#[]⟩, .string ⟨#[]⟩, .string ⟨#[]⟩, .string ⟨#[]⟩, .string ⟨#[]⟩, .slice none 0 0, .slice none 0 0] 35)).alloc (.cells #[.nilFunc, .pointer none] 99)).alloc (.cells #[.pointer (some ⟨w.heap.size + 1 + 1 + 1, 0, none⟩)] 95)).heap[q]? := fun q hq => by rw [e6]; exact setRow_other _ _ _ _ hq
 have E6 : EdAt ((((((w.alloc (.cells #[.int .i64 t.kd, .string t.nm.1, .string t.nm.2, x0, x1, x2, x3, x4, x5, x6, .slice A t.args.length c] 35)).alloc (.cells #[.slice A2 s.length c2] 50)).alloc (.cells #[.int .i64 0, .string ⟨#[]⟩, .string ⟨#[]⟩, .int .i64 0, .string ⟨#[]⟩, .string ⟨#[]⟩, .string ⟨#[]⟩, .string ⟨#[]⟩, .string ⟨#[]⟩, .slice none 0 0, .slice none 0 0] 35)).alloc (.cells #[.nilFunc, .pointer none] 99)).alloc (.cells #[.pointer (some ⟨w.heap.size + 1 + 1 + 1, 0, none⟩)] 95)).setCell ⟨w.heap.size + 1 + 1 + 1, 0, none⟩ (.func (.func 76) #[] #[.pointer (some ⟨w.heap.size + 1 + 1 + 1 + 1, 0, none⟩), .pointer (some ⟨w.heap.size + 1, 0, none⟩)])) (w.heap.size + 1 + 1 + 1) 76 #[.pointer (some ⟨w.heap.size + 1 + 1 + 1 + 1, 0, none⟩), .pointer (some ⟨w.heap.size + 1, 0, none⟩)] := by
  unfold EdAt
  rw [e6]
  exact setRow_heap _ _ _ _ _ _ E5
 have hA6 : Below w.heap.size w ((((((w.alloc (.cells #[.int .i64 t.kd, .string t.nm.1, .string t.nm.2, x0, x1, x2, x3, x4, x5, x6, .slice A t.args.length c] 35)).alloc (.cells #[.slice A2 s.length c2] 50)).alloc (.cells #[.int .i64 0, .string ⟨#[]⟩, .string ⟨#[]⟩, .int .i64 0, .string ⟨#[]⟩, .string ⟨#[]⟩, .string ⟨#[]⟩, .string ⟨#[]⟩, .string ⟨#[]⟩, .slice none 0 0, .slice none 0 0] 35)).alloc (.cells #[.nilFunc, .pointer none] 99)).alloc (.cells #[.pointer (some ⟨w.heap.size + 1 + 1 + 1, 0, none⟩)] 95)).setCell ⟨w.heap.size + 1 + 1 + 1, 0, none⟩ (.func (.func 76) #[] #[.pointer (some ⟨w.heap.size + 1 + 1 + 1 + 1, 0, none⟩), .pointer (some ⟨w.heap.size + 1, 0, none⟩)])) := by rw [e6]; exact below_setRowO hA5 (by omega) _
 have hsz6 : ((((((w.alloc (.cells #[.int .i64 t.kd, .string t.nm.1, .string t.nm.2, x0, x1, x2, x3, x4, x5, x6, .slice A t.args.length c] 35)).alloc (.cells #[.slice A2 s.length c2] 50)).alloc (.cells #[.int .i64 0, .string ⟨#[]⟩, .string ⟨#[]⟩, .int .i64 0, .string ⟨#[]⟩, .string ⟨#[]⟩, .string ⟨#[]⟩, .string ⟨#[]⟩, .string ⟨#[]⟩, .slice none 0 0, .slice none 0 0] 35)).alloc (.cells #[.nilFunc, .pointer none] 99)).alloc (.cells #[.pointer (some ⟨w.heap.size + 1 + 1 + 1, 0, none⟩)] 95)).setCell ⟨w.heap.size + 1 + 1 + 1, 0, none⟩ (.func (.func 76) #[] #[.pointer (some ⟨w.heap.size + 1 + 1 + 1 + 1, 0, none⟩), .pointer (some ⟨w.heap.size + 1, 0, none⟩)])).heap.size = w.heap.size + 5 := by rw [e6, size_setRow]; exact hsz
 have T0 : TB ((((((w.alloc (.cells #[.int .i64 t.kd, .string t.nm.1, .string t.nm.2, x0, x1, x2, x3, x4, x5, x6, .slice A t.args.length c] 35)).alloc (.cells #[.slice A2 s.length c2] 50)).alloc (.cells #[.int .i64 0, .string ⟨#[]⟩, .string ⟨#[]⟩, .int .i64 0, .string ⟨#[]⟩, .string ⟨#[]⟩, .string ⟨#[]⟩, .string ⟨#[]⟩, .string ⟨#[]⟩, .slice none 0 0, .slice none 0 0] 35)).alloc (.cells #[.nilFunc, .pointer none] 99)).alloc (.cells #[.pointer (some ⟨w.heap.size + 1 + 1 + 1, 0, none⟩)] 95)).setCell ⟨w.heap.size + 1 + 1 + 1, 0, none⟩ (.func (.func 76) #[] #[.pointer (some ⟨w.heap.size + 1 + 1 + 1 + 1, 0, none⟩), .pointer (some ⟨w.heap.size + 1, 0, none⟩)])) w.heap.size [.int .i64 t.kd, .string t.nm.1, .string t.nm.2, x0, x1, x2, x3, x4, x5, x6, .slice A t.args.length c] := (ho _ (by omega)).trans ((Below.heap_alloc _ _ _ (by simp <;> omega)).trans ((Below.heap_alloc _ _ _ (by simp <;> omega)).trans ((Below.heap_alloc _ _ _ (by simp <;> omega)).trans ((Below.heap_alloc _ _ _ (by simp)).trans (heap_alloc_new w _)))))
 have T1 : ((((((w.alloc (.cells #[.int .i64 t.kd, .string t.nm.1, .string t.nm.2, x0, x1, x2, x3, x4, x5, x6, .slice A t.args.length c] 35)).alloc (.cells #[.slice A2 s.length c2] 50)).alloc (.cells #[.int .i64 0, .string ⟨#[]⟩, .string ⟨#[]⟩, .int .i64 0, .string ⟨#[]⟩, .string ⟨#[]⟩, .string ⟨#[]⟩, .string ⟨#[]⟩, .string ⟨#[]⟩, .slice none 0 0, .slice none 0 0] 35)).alloc (.cells #[.nilFunc, .pointer none] 99)).alloc (.cells #[.pointer (some ⟨w.heap.size + 1 + 1 + 1, 0, none⟩)] 95)).setCell ⟨w.heap.size + 1 + 1 + 1, 0, none⟩ (.func (.func 76) #[] #[.pointer (some ⟨w.heap.size + 1 + 1 + 1 + 1, 0, none⟩), .pointer (some ⟨w.heap.size + 1, 0, none⟩)])).heap[w.heap.size + 1]? = some (.cells #[.slice A2 s.length c2] 50 (0, 0)) := (ho _ (by omega)).trans ((Below.heap_alloc _ _ _ (by simp <;> omega)).trans ((Below.heap_alloc _ _ _ (by simp <;> omega)).trans ((Below.heap_alloc _ _ _ (by simp)).trans (heap_new_at (by simp)))))
 have T2 : TB ((((((w.alloc (.cells #[.int .i64 t.kd, .string t.nm.1, .string t.nm.2, x0, x1, x2, x3, x4, x5, x6, .slice A t.args.length c] 35)).alloc (.cells #[.slice A2 s.length c2] 50)).alloc (.cells #[.int .i64 0, .string ⟨#[]⟩, .string ⟨#[]⟩, .int .i64 0, .string ⟨#[]⟩, .string ⟨#[]⟩, .string ⟨#[]⟩, .string ⟨#[]⟩, .string ⟨#[]⟩, .slice none 0 0, .slice none 0 0] 35)).alloc (.cells #[.nilFunc, .pointer none] 99)).alloc (.cells #[.pointer (some ⟨w.heap.size + 1 + 1 + 1, 0, none⟩)] 95)).setCell ⟨w.heap.size + 1 + 1 + 1, 0, none⟩ (.func (.func 76) #[] #[.pointer (some ⟨w.heap.size + 1 + 1 + 1 + 1, 0, none⟩), .pointer (some ⟨w.heap.size + 1, 0, none⟩)])) (w.heap.size + 1 + 1) zT := (ho _ (by omega)).trans ((Below.heap_alloc _ _ _ (by simp <;> omega)).trans ((Below.heap_alloc _ _ _ (by simp)).trans (heap_new_at (by simp))))
 have T4 : ((((((w.alloc (.cells #[.int .i64 t.kd, .string t.nm.1, .string t.nm.2, x0, x1, x2, x3, x4, x5, x6, .slice A t.args.length c] 35)).alloc (.cells #[.slice A2 s.length c2] 50)).alloc (.cells #[.int .i64 0, .string ⟨#[]⟩, .string ⟨#[]⟩, .int .i64 0, .string ⟨#[]⟩, .string ⟨#[]⟩, .string ⟨#[]⟩, .string ⟨#[]⟩, .string ⟨#[]⟩, .slice none 0 0, .slice none 0 0] 35)).alloc (.cells #[.nilFunc, .pointer none] 99)).alloc (.cells #[.pointer (some ⟨w.heap.size + 1 + 1 + 1, 0, none⟩)] 95)).setCell ⟨w.heap.size + 1 + 1 + 1, 0, none⟩ (.func (.func 76) #[] #[.pointer (some ⟨w.heap.size + 1 + 1 + 1 + 1, 0, none⟩), .pointer (some ⟨w.heap.size + 1, 0, none⟩)])).heap[w.heap.size + 1 + 1 + 1 + 1]? = some (.cells #[.pointer (some ⟨w.heap.size + 1 + 1 + 1, 0, none⟩)] 95 (0, 0)) := (ho _ (by omega)).trans (heap_new_at (by simp))
 have hce : ((((((w.alloc (.cells #[.int .i64 t.kd, .string t.nm.1, .string t.nm.2, x0, x1, x2, x3, x4, x5, x6, .slice A t.args.length c] 35)).alloc (.cells #[.slice A2 s.length c2] 50)).alloc (.cells #[.int .i64 0, .string ⟨#[]⟩, .string ⟨#[]⟩, .int .i64 0, .string ⟨#[]⟩, .string ⟨#[]⟩, .string ⟨#[]⟩, .string ⟨#[]⟩, .string ⟨#[]⟩, .slice none 0 0, .slice none 0 0] 35)).alloc (.cells #[.nilFunc, .pointer none] 99)).alloc (.cells #[.pointer (some ⟨w.heap.size + 1 + 1 + 1, 0, none⟩)] 95)).setCell ⟨w.heap.size + 1 + 1 + 1, 0, none⟩ (.func (.func 76) #[] #[.pointer (some ⟨w.heap.size + 1 + 1 + 1 + 1, 0, none⟩), .pointer (some ⟨w.heap.size + 1, 0, none⟩)])).cell? ⟨w.heap.size + 1 + 1 + 1 + 1, 0, none⟩ = some (.pointer (some ⟨w.heap.size + 1 + 1 + 1, 0, none⟩)) := by rw [cell_of_row _ _ _ _ _ _ T4]; rfl
 have hcs : ((((((w.alloc (.cells #[.int .i64 t.kd, .string t.nm.1, .string t.nm.2, x0, x1, x2, x3, x4, x5, x6, .slice A t.args.length c] 35)).alloc (.cells #[.slice A2 s.length c2] 50)).alloc (.cells #[.int .i64 0, .string ⟨#[]⟩, .string ⟨#[]⟩, .int .i64 0, .string ⟨#[]⟩, .string ⟨#[]⟩, .string ⟨#[]⟩, .string ⟨#[]⟩, .string ⟨#[]⟩, .slice none 0 0, .slice none 0 0] 35)).alloc (.cells #[.nilFunc, .pointer none] 99)).alloc (.cells #[.pointer (some ⟨w.heap.size + 1 + 1 + 1, 0, none⟩)] 95)).setCell ⟨w.heap.size + 1 + 1 + 1, 0, none⟩ (.func (.func 76) #[] #[.pointer (some ⟨w.heap.size + 1 + 1 + 1 + 1, 0, none⟩), .pointer (some ⟨w.heap.size + 1, 0, none⟩)])).cell? ⟨w.heap.size + 1, 0, none⟩ = some (.slice A2 s.length c2) := by rw [cell_of_row _ _ _ _ _ _ T1]; rfl
 have C : SubC ((((((w.alloc (.cells #[.int .i64 t.kd, .string t.nm.1, .string t.nm.2, x0, x1, x2, x3, x4, x5, x6, .slice A t.args.length c] 35)).alloc (.cells #[.slice A2 s.length c2] 50)).alloc (.cells #[.int .i64 0, .string ⟨#[]⟩, .string ⟨#[]⟩, .int .i64 0, .string ⟨#[]⟩, .string ⟨#[]⟩, .string ⟨#[]⟩, .string ⟨#[]⟩, .string ⟨#[]⟩, .slice none 0 0, .slice none 0 0] 35)).alloc (.cells #[.nilFunc, .pointer none] 99)).alloc (.cells #[.pointer (some ⟨w.heap.size + 1 + 1 + 1, 0, none⟩)] 95)).setCell ⟨w.heap.size + 1 + 1 + 1, 0, none⟩ (.func (.func 76) #[] #[.pointer (some ⟨w.heap.size + 1 + 1 + 1 + 1, 0, none⟩), .pointer (some ⟨w.heap.size + 1, 0, none⟩)])) S (w.heap.size + 1 + 1 + 1) (w.heap.size + 1 + 1 + 1 + 1) (w.heap.size + 1) s (.slice A2 s.length c2) := ⟨E6, hce, hcs, hsv.below hS hA6, hS.later hA6.size⟩
 have WHC := hI (wholeE 76 _ (subT s) (chS s) t (w.heap.size + 1 + 1 + 1) _ ((((((w.alloc (.cells #[.int .i64 t.kd, .string t.nm.1, .string t.nm.2, x0, x1, x2, x3, x4, x5, x6, .slice A t.args.length c] 35)).alloc (.cells #[.slice A2 s.length c2] 50)).alloc (.cells #[.int .i64 0, .string ⟨#[]⟩, .string ⟨#[]⟩, .int .i64 0, .string ⟨#[]⟩, .string ⟨#[]⟩, .string ⟨#[]⟩, .string ⟨#[]⟩, .string ⟨#[]⟩, .slice none 0 0, .slice none 0 0] 35)).alloc (.cells #[.nilFunc, .pointer none] 99)).alloc (.cells #[.pointer (some ⟨w.heap.size + 1 + 1 + 1, 0, none⟩)] 95)).setCell ⟨w.heap.size + 1 + 1 + 1, 0, none⟩ (.func (.func 76) #[] #[.pointer (some ⟨w.heap.size + 1 + 1 + 1 + 1, 0, none⟩), .pointer (some ⟨w.heap.size + 1, 0, none⟩)])) S C.hS E6 (h.below hS hA6) hn (sub_hcf _ _) (fun W b k cs hw hq => subC s _ _ _ _ S hs t W b k cs (C.keep hw) hn hq))
 have c5 : (((((w.alloc (.cells #[.int .i64 t.kd, .string t.nm.1, .string t.nm.2, x0, x1, x2, x3, x4, x5, x6, .slice A t.args.length c] 35)).alloc (.cells #[.slice A2 s.length c2] 50)).alloc (.cells #[.int .i64 0, .string ⟨#[]⟩, .string ⟨#[]⟩, .int .i64 0, .string ⟨#[]⟩, .string ⟨#[]⟩, .string ⟨#[]⟩, .string ⟨#[]⟩, .string ⟨#[]⟩, .slice none 0 0, .slice none 0 0] 35)).alloc (.cells #[.nilFunc, .pointer none] 99)).alloc (.cells #[.pointer (some ⟨w.heap.size + 1 + 1 + 1, 0, none⟩)] 95)).cell? ⟨w.heap.size + 1 + 1 + 1 + 1, 0, none⟩ = some (.pointer (some ⟨w.heap.size + 1 + 1 + 1, 0, none⟩)) := by rw [cell_of_row _ _ _ _ _ _ (heap_new_at (by simp))]; rfl
 have HT0 := hI T0
 have HT2 := hI T2
 have HA6 := hI hA6
 have HSZ6 := hI hsz6
 have HCE := hI hce
 have HS := hI hS
 have O0 : Hid (One11 [.int .i64 t.kd, .string t.nm.1, .string t.nm.2, x0, x1, x2, x3, x4, x5, x6, .slice A t.args.length c]) := h.o11
 generalize subT s t = u at WHC ⊢
 unfold vTm at WHC ⊢
 clear h hsv hA5 E5 hsz e6 ho E6 hA6 hsz6 T0 T1 T2 T4 hce hcs C hn hs hS
 go_enter Tryz.func33, Tryz.ntmps33
 go_upto_region 2 with fail
 generalize (((((w.alloc (.cells #[.int .i64 t.kd, .string t.nm.1, .string t.nm.2, x0, x1, x2, x3, x4, x5, x6, .slice A t.args.length c] 35)).alloc (.cells #[.slice A2 s.length c2] 50)).alloc (.cells #[.int .i64 0, .string ⟨#[]⟩, .string ⟨#[]⟩, .int .i64 0, .string ⟨#[]⟩, .string ⟨#[]⟩, .string ⟨#[]⟩, .string ⟨#[]⟩, .string ⟨#[]⟩, .slice none 0 0, .slice none 0 0] 35)).alloc (.cells #[.nilFunc, .pointer none] 99)).alloc (.cells #[.pointer (some ⟨w.heap.size + 1 + 1 + 1, 0, none⟩)] 95)) = Y5 at *
 go_upto_region 3 with fail
 generalize Y5.setCell ⟨w.heap.size + 1 + 1 + 1, 0, none⟩ (.func (.func 76) #[] #[.pointer (some ⟨w.heap.size + 1 + 1 + 1 + 1, 0, none⟩), .pointer (some ⟨w.heap.size + 1, 0, none⟩)]) = Y at *
 have hce := HCE.out
 clear e0 f0 c5
 go_wp2_with ((with_reducible refine loadTb (cs := [.int .i64 t.kd, .string t.nm.1, .string t.nm.2, x0, x1, x2, x3, x4, x5, x6, .slice A t.args.length c]) (.tmp 2) ?_ ?_ ?_ HT0.out ?_ ?_); rfl; rfl; rfl; rfl)
 refine WHC.out.mono ?_
 rintro e w7 ⟨cs7, rfl, h7, hb7⟩
 have O7 := hI h7.o11
 have HB := hI (HT2.out.keep hb7)
 have H7 : Hid (TmAt w7 (Upto w w7 S) u cs7) := h7.more fun q hq => up3 HA6.out (Below.refl _ _) q hq
 have HW := hI (HA6.out.trans (hb7.mono HA6.out.size))
 clear h7 hb7 hce
 go_wp2_with ((with_reducible refine storeTb (cs := cs7) (.tmp 4) (.tmp 14) ?_ ?_ ?_ ?_ HB.out ?_ ?_ ?_ ?_); rfl; rfl; rfl; rfl; rfl; exact O7.out.1; exact O7.out.2)
 exact retTb rfl rfl (HB.out.set _) O7.out.1 ⟨_, rfl, TmAt.boxed H7.out HB.out.nb _, below_setRowO HW.out (by omega) _⟩
theorem zT_one : ∀ u ∈ zT, u.oneCell' = true := by simp [zT, Value.oneCell']
def RetA (w : World) (S : Nat → Prop) (R : Option Tm) (e : Ending) (w' : World) : Prop := match R with
 | some t => RetTB w S t true e w'
 | none => e = .returned (.tuple #[vTm zT, .bool false]) ∧ Below w.heap.size w w'

theorem upto_two {w w1 w2 : World} {S : Nat → Prop} (h1 : w.heap.size ≤ w1.heap.size) (h2 : w1.heap.size ≤ w2.heap.size) (b : Nat) (h : Upto w1 w2 (Upto w w1 S) b) : Upto w w2 S b := by
 rcases h with h | ⟨h3, h4⟩
 · exact upto_more h2 b h
 · exact .inr ⟨by omega, h4⟩
mutual
def Tm.bd (d : Nat) : Tm → Prop
 | .var _ => True
 | .con o => o.bd d
 | .app _ l => Tm.bdL d l
def Tm.bdL (d : Nat) : List Tm → Prop
 | [] => True
 | t :: l => t.bd d ∧ Tm.bdL d l
end
theorem Tm.bdL_mem {d : Nat} : ∀ {l : List Tm} {t : Tm}, Tm.bdL d l → t ∈ l → t.bd d
 | x :: l, t, h, hm => by
  unfold Tm.bdL at h
  rcases List.mem_cons.1 hm with e | hm
  · rw [e]; exact h.1
  · exact Tm.bdL_mem h.2 hm
theorem Tm.bd_args {d : Nat} {t : Tm} (h : t.bd d) : Tm.bdL d t.args := by
 cases t with
 | var s => unfold Tm.args Tm.bdL; trivial
 | con o => unfold Tm.args Tm.bdL; trivial
 | app s l => unfold Tm.bd at h; exact h
def valE (t t' : Tm) : Bool := match t, t' with
 | .con o, .con o' => decide (o = o')
 | _, _ => true
def sameT (t t' : Tm) : Bool := t.kd == t'.kd && (t.nm.1.toList == t'.nm.1.toList && t.nm.2.toList == t'.nm.2.toList) && (t.args.length == t'.args.length) && valE t t'
theorem eqTs_len : ∀ (l l' : List Tm), eqTs l l' = true → l.length = l'.length
 | [], [], _ => rfl
 | t :: l, t' :: l', h => by
  unfold eqTs at h
  rw [Bool.and_eq_true] at h
  simp [eqTs_len l l' h.2]
 | [], _ :: _, h => by unfold eqTs at h; cases h
 | _ :: _, [], h => by unfold eqTs at h; cases h
theorem eqTs_nil : eqTs [] [] = true := by unfold eqTs; rfl
theorem eqT_same (t t' : Tm) : eqT t t' = (sameT t t' && eqTs t.args t'.args) := by
 cases t with
 | var s =>
  cases t' with
  | var s' => simp [eqT, sameT, Tm.kd, Tm.nm, Tm.args, valE, eqN, eqTs_nil]
  | con o => simp [eqT, sameT, Tm.kd]
  | app s l => simp [eqT, sameT, Tm.kd]
 | con o =>
  cases t' with
  | var s' => simp [eqT, sameT, Tm.kd]
  | con o' => simp [eqT, sameT, Tm.kd, Tm.nm, Tm.args, valE, eqTs_nil]
  | app s l => simp [eqT, sameT, Tm.kd]
 | app s l =>
  cases t' with
  | var s' => simp [eqT, sameT, Tm.kd]
  | con o => simp [eqT, sameT, Tm.kd]
  | app s' l' =>
   have hl := eqTs_len l l'
   simp only [eqT, sameT, Tm.kd, Tm.nm, Tm.args, valE, eqN, Bool.and_true, beq_self_eq_true, Bool.true_and]
   cases h : eqTs l l' with
   | false => simp
   | true => simp [hl h]
theorem sameT_len {t t' : Tm} (h : sameT t t' = true) : t.args.length = t'.args.length := by
 unfold sameT at h
 simp only [Bool.and_eq_true, beq_iff_eq] at h
 exact h.1.2
theorem eqTs_drop {l l' : List Tm} {i : Nat} (hi : i < l.length) (hi' : i < l'.length) : eqTs (l.drop i) (l'.drop i) = (eqT l[i] l'[i] && eqTs (l.drop (i + 1)) (l'.drop (i + 1))) := by
 rw [List.drop_eq_getElem_cons hi, List.drop_eq_getElem_cons hi']; conv => lhs; unfold eqTs
theorem valP (d : Nat) (hd : d ≤ 1000) (t t' : Tm) (x0 x1 x2 x3 x4 x5 x6 y0 y1 y2 y3 y4 y5 y6 : Value) (w : World) (S : Nat → Prop) (hS : In S w) (hx : ValAt w S t [x0, x1, x2, x3, x4, x5, x6]) (hy : ValAt w S t' [y0, y1, y2, y3, y4, y5, y6]) (hb : t.bd d) (hb' : t'.bd d) (hn : t.nodes ≤ 3000) (hk : t.kd = t'.kd) :
 ∀ W, Below w.heap.size w W → Calls Tryz.prog 91 #[.agg #[x0, x1, x2, x3, x4, x5, x6], .agg #[y0, y1, y2, y3, y4, y5, y6]] W (RetB W (valE t t')) := by
 intro W hw
 have Z : ∀ (a0 a1 a2 a3 a4 a5 a6 : Value), [a0, a1, a2, a3, a4, a5, a6] = zO → (Value.agg #[a0, a1, a2, a3, a4, a5, a6]) = .agg #[.int .i64 0, .string ⟨#[]⟩, .string ⟨#[]⟩, .string ⟨#[]⟩, .string ⟨#[]⟩, .string ⟨#[]⟩, .slice none 0 0] := by
  intro a0 a1 a2 a3 a4 a5 a6 h
  unfold zO at h
  simp only [List.cons.injEq, and_true] at h
  obtain ⟨rfl, rfl, rfl, rfl, rfl, rfl, rfl⟩ := h
  rfl
 cases t with
 | var s =>
  cases t' with
  | var s' => rw [Z _ _ _ _ _ _ _ hx, Z _ _ _ _ _ _ _ hy]; exact equalPZ W
  | con o => exact absurd hk (by simp [Tm.kd])
  | app s l => exact absurd hk (by simp [Tm.kd])
 | con o =>
  cases t' with
  | var s' => exact absurd hk (by simp [Tm.kd])
  | con o' =>
   obtain ⟨p, e1, hp⟩ := hx
   obtain ⟨p', e2, hp'⟩ := hy
   have h := equalP d hd o o' p p' W S (hS.later hw.size) (hp.below hS hw) (hp'.below hS hw) hb hb' (by have e : (Tm.con o).nodes = o.nodes := (by unfold Tm.nodes; rfl); omega)
   unfold vO at h
   rw [← e1, ← e2] at h
   exact h
  | app s l => exact absurd hk (by simp [Tm.kd])
 | app s l =>
  cases t' with
  | var s' => exact absurd hk (by simp [Tm.kd])
  | con o => exact absurd hk (by simp [Tm.kd])
  | app s' l' => rw [Z _ _ _ _ _ _ _ hx, Z _ _ _ _ _ _ _ hy]; exact equalPZ W
theorem agreeStep (d : Nat) (hd : d ≤ 1000) (t t' : Tm) (b k b' k' : Nat) (cs cs' : List Value) (w : World) (S : Nat → Prop) (g s : Nat) (hP : TmP w S t b k cs) (hP' : TmP w S t' b' k' cs') (hbd : t.bd d) (hbd' : t'.bd d) (hS : In S w) (hg : ¬ S g) (hc : CtAt w g s) (hn : s + t.nodes ≤ 3000)
 (ih : ∀ x ∈ t.args, ∀ (t' : Tm) (b k b' k' : Nat) (cs cs' : List Value) (W : World) (s' : Nat), TmP W S x b k cs → TmP W S t' b' k' cs' → x.bd d → t'.bd d → In S W → CtAt W g s' → s' + x.nodes ≤ 3000 →
   Calls Tryz.prog 108 #[.pointer (some ⟨g, 0, none⟩), .pointer (some ⟨b, k, none⟩), .pointer (some ⟨b', k', none⟩)] W (fun e w' => e = .returned (.bool (eqT x t')) ∧ RunT W w' g s' (s' + x.nodes))) :
 Calls Tryz.prog 108 #[.pointer (some ⟨g, 0, none⟩), .pointer (some ⟨b, k, none⟩), .pointer (some ⟨b', k', none⟩)] w (fun e w' => e = .returned (.bool (eqT t t')) ∧ RunT w w' g s (s + t.nodes)) := by
 obtain ⟨x0, x1, x2, x3, x4, x5, x6, A, c, _, hv, ha, l0, l1, l2, l3, l4, l5, l6, l7, l8, l9, l10⟩ := hP.cells
 obtain ⟨y0, y1, y2, y3, y4, y5, y6, A', c', _, hv', ha', m0, m1, m2, m3, m4, m5, m6, m7, m8, m9, m10⟩ := hP'.cells
 have C1 := hI (sameTRaw b k b' k' w t.kd t'.kd t.nm.1 t.nm.2 t'.nm.1 t'.nm.2 x0 x1 x2 x3 x4 x5 x6 y0 y1 y2 y3 y4 y5 y6 A A' t.args.length t'.args.length c c' (valE t t') l0 l1 l2 l3 l4 l5 l6 l7 l8 l9 l10 m0 m1 m2 m3 m4 m5 m6 m7 m8 m9 m10
  (fun hk => valP d hd t t' x0 x1 x2 x3 x4 x5 x6 y0 y1 y2 y3 y4 y5 y6 w S hS hv hv' hbd hbd' (by omega) hk))
 have hna := t.nodes_args
 have HLB : Hid (b < w.heap.size) := hS b hP.1.1
 have HMB : Hid (b' < w.heap.size) := hS b' hP'.1.1
 have SB : Hid (S b ∧ S b') := ⟨hP.1.1, hP'.1.1⟩
 have L10w := hI l10
 have M10w := hI m10
 rw [eqT_same]
 have hsl := sameT_len (t := t) (t' := t')
 have bda := hI (Tm.bd_args hbd)
 have bda' := hI (Tm.bd_args hbd')
 change Hid (Calls _ _ _ _ (RetB w (sameT t t'))) at C1
 generalize sameT t t' = sm at C1 hsl ⊢
 clear l0 l1 l2 l3 l4 l5 l6 l7 l8 l9 l10 m0 m1 m2 m3 m4 m5 m6 m7 m8 m9 m10 hv hv' hP hP' hbd hbd'
 have HC := hI hc
 clear hc
 generalize t.args = l at *
 generalize t'.args = l' at *
 generalize t.nodes = m at *
 cases sm with
 | false =>
  go_enter Tryz.func108, Tryz.ntmps108
  go_wp2_with fail
  refine C1.out.mono ?_
  rintro e w1 ⟨rfl, hb1⟩
  have R1 := hI ((RunT.start HC.out).below hb1)
  clear hb1 C1
  go_wp2
  go_ret
  exact ⟨by rfl, R1.out.more (by omega)⟩
 | true =>
  have hlen : l.length = l'.length := hsl rfl
  have hr : Hid ((true && eqTs l l') = eqTs l l') := rfl
  rw [hr.out]
  clear hr hsl
  have hcl := ha.1
  have hcl' := ha'.1
  have hLn := Tm.nodesL_len l
  have PC1 : ∀ W, Below w.heap.size w W → Calls Tryz.prog 104 #[.slice A l.length c] W (fun e w' => e = .returned (.agg (plV A l.length)) ∧ Below W.heap.size W w') := fun W hb => placeT l A c W S (ha.below hS hb)
  have PC2 : ∀ W, Below w.heap.size w W → Calls Tryz.prog 104 #[.slice A' l'.length c'] W (fun e w' => e = .returned (.agg (plV A' l'.length)) ∧ Below W.heap.size W w') := fun W hb => placeT l' A' c' W S (ha'.below hS hb)
  -- what isSettled answers
  have HSET : ∃ q : Bool, (q = true → eqTs l l' = true) ∧ ∀ W, RunT w W g s s → Calls Tryz.prog 137 #[.pointer (some ⟨g, 0, none⟩), .agg (plV A l.length), .agg (plV A' l'.length)] W (fun e w' => e = .returned (.bool q) ∧ RunT w w' g s (s + 1)) := by
   by_cases h0 : l.length = 0
   · have e1 : l = [] := List.length_eq_zero_iff.1 h0
     have e2 : l' = [] := List.length_eq_zero_iff.1 (by omega)
     subst e1 e2
     refine ⟨true, fun _ => eqTs_nil, fun W hr => ?_⟩
     refine (setT1 g _ _ _ rfl rfl W (fun W _ => eqPl_zero W)).mono ?_
     rintro e w' ⟨rfl, hb⟩
     exact ⟨rfl, (hr.below hb).more (by omega)⟩
   · obtain ⟨b1, o1, rfl, hb1, hr1⟩ := ha.2 (by omega)
     obtain ⟨b2, o2, rfl, hb2, hr2⟩ := ha'.2 (by omega)
     have e1 : plV (some ⟨b1, o1, none⟩) l.length = #[.pointer (some ⟨b1, o1, none⟩), .int .i64 l.length] := by unfold plV; rw [if_neg h0]
     have e2 : plV (some ⟨b2, o2, none⟩) l'.length = #[.pointer (some ⟨b2, o2, none⟩), .int .i64 l.length] := by unfold plV; rw [if_neg (by omega), hlen]
     rw [e1, e2]
     by_cases hbo : b1 = b2 ∧ o1 = o2
     · obtain ⟨rfl, rfl⟩ := hbo
       refine ⟨true, fun _ => ?_, fun W hr => ?_⟩
       · rw [TmsAt.inj b1 o1 l l' hlen hr1 hr2]; exact eqTs_refl _
       · refine (setT1 g _ _ _ rfl rfl W (fun W _ => eqPl_same W ⟨b1, o1, none⟩)).mono ?_
         rintro e w' ⟨rfl, hb⟩
         exact ⟨rfl, (hr.below hb).more (by omega)⟩
     · refine ⟨false, (fun h => by cases h), fun W hr => ?_⟩
       exact setT0 g _ _ _ rfl rfl w W s s (fun W' hw => by
        have k1 : Plain W' b1 := hb1.2.keep ((hw.block b1 (Nat.lt_of_lt_of_le (hS b1 hb1.1) hr.1.size)).trans (hr.1.block b1 (hS b1 hb1.1) (fun e => hg (by injection e with e; exact e ▸ hb1.1))))
        have k2 : Plain W' b2 := hb2.2.keep ((hw.block b2 (Nat.lt_of_lt_of_le (hS b2 hb2.1) hr.1.size)).trans (hr.1.block b2 (hS b2 hb2.1) (fun e => hg (by injection e with e; exact e ▸ hb2.1))))
        exact eqPl_other W' k1 k2 hbo) hr (by omega)
  obtain ⟨q, hq, hset⟩ := HSET
  have hpl : ∃ p0 p1, plV A l.length = #[p0, p1] := by unfold plV; split <;> exact ⟨_, _, rfl⟩
  have hpl' : ∃ q0 q1, plV A' l'.length = #[q0, q1] := by unfold plV; split <;> exact ⟨_, _, rfl⟩
  obtain ⟨p0, p1, ep⟩ := hpl
  obtain ⟨q0, q1, eq⟩ := hpl'
  rw [ep] at PC1 hset
  rw [eq] at PC2 hset
  obtain ⟨L, hL⟩ : ∃ L, l.length = L := ⟨_, rfl⟩
  have hL' : l'.length = L := by omega
  rw [hL] at PC1 L10w hcl
  rw [hL'] at PC2 M10w hcl'
  replace PC1 := hI PC1
  replace PC2 := hI PC2
  replace hset := hI hset
  have HL := hI hL
  have HL' := hI hL'
  have HA := hI ha
  have HA' := hI ha'
  have IH := hI ih
  have HS := hI hS
  have HG := hI hg
  have hL3 : L ≤ 3000 := by omega
  have hm1 : s + 1 + Tm.nodesL l ≤ s + m := by omega
  have hm3 : s + m ≤ 3000 := hn
  obtain ⟨M, hM⟩ : ∃ M, s + m = M := ⟨_, rfl⟩
  rw [hM] at hm1 hm3 ⊢
  obtain ⟨r, hr⟩ : ∃ r, eqTs l l' = r := ⟨_, rfl⟩
  rw [hr]
  rw [hr] at hq
  have HR := hI hr
  have HW1 : Hid (∀ W, Below w.heap.size w W → RunT w W g s s) := fun W hb => (RunT.start HC.out).below hb
  clear ha ha' ih hS hg hL hL' hlen ep eq hLn hn hna hM hr
  cases q with
  | true =>
   have er : r = true := hq rfl
   subst er
   clear hq
   go_enter Tryz.func108, Tryz.ntmps108
   go_wp2_with fail
   refine C1.out.mono ?_
   rintro e w1 ⟨rfl, hb1⟩
   have R1 := hI ((RunT.start HC.out).below hb1)
   have L10 := hI ((hb1.cell (p := ⟨b, k + 10, none⟩) HLB.out).trans L10w.out)
   have M10 := hI ((hb1.cell (p := ⟨b', k' + 10, none⟩) HMB.out).trans M10w.out)
   replace HLB := hI (Nat.lt_of_lt_of_le HLB.out hb1.size)
   replace HMB := hI (Nat.lt_of_lt_of_le HMB.out hb1.size)
   have HB1 := hI hb1
   clear hb1 C1
   go_wp2_with fail
   refine wp_region_grow (l := _) 11 (by kernel_rfl) (by kernel_rfl) (fun i => [12, 13, 14, 15, 16, 17, 18, 19, 20, 21, 22].getD i 0) (LR [LV (.pointer (some ⟨g, 0, none⟩)), LV (.pointer (some ⟨b, k, none⟩)), LV (.pointer (some ⟨b, k, none⟩)), LV (.pointer (some ⟨b, k + 10, none⟩)), LV (.slice A L c), LV (.agg #[p0, p1]), LV (.pointer (some ⟨b', k', none⟩)), LV (.pointer (some ⟨b', k', none⟩)), LV (.pointer (some ⟨b', k' + 10, none⟩)), LV (.slice A' L c'), LV (.agg #[q0, q1])]) (LR_mono ⟨mLV _, mLV _, mLV _, mLV _, mLV _, mLV _, mLV _, mLV _, mLV _, mLV _, mLV _, trivial⟩) (by
    intro i j hi hj h
    exact inj_getD [12, 13, 14, 15, 16, 17, 18, 19, 20, 21, 22] (by decide) i j hi hj h) (by
    intro i hi
    exact lt_getD 48 [12, 13, 14, 15, 16, 17, 18, 19, 20, 21, 22] (by decide) i hi) ?step ?done
   case step =>
    intro ii hii a w9 v lo hi' hoth hb hw
    have sl0 : a.tmps[0]? = some (.pointer (some ⟨g, 0, none⟩)) := (hoth 0 (fun j hj => ne_getD 0 _ (by decide) j hj)).trans rfl
    have sl1 : a.tmps[1]? = some (.pointer (some ⟨b, k, none⟩)) := (hoth 1 (fun j hj => ne_getD 1 _ (by decide) j hj)).trans rfl
    have sl2 : a.tmps[2]? = some (.pointer (some ⟨b', k', none⟩)) := (hoth 2 (fun j hj => ne_getD 2 _ (by decide) j hj)).trans rfl
    match ii, hii with
    | 0, _ =>
     exact gw_move rfl (wanted_plain rfl) 0 _ rfl sl0 ⟨_, rfl, Below.refl _ _, rfl⟩
    | 1, _ =>
     exact gw_move rfl (wanted_plain rfl) 1 _ rfl sl1 ⟨_, rfl, Below.refl _ _, rfl⟩
    | 2, _ =>
     obtain ⟨s0, r0, _⟩ := hw 1 (by omega) (by kernel_rfl)
     have e0 : v 1 = .pointer (some ⟨b, k, none⟩) := r0
     rw [e0] at s0
     replace s0 : a.tmps[13]? = some (.pointer (some ⟨b, k, none⟩)) := s0
     refine wpOp_step rfl fun K' hK' => ?_
     rw [if_pos (wanted_plain rfl)]
     unfold Oper.wp
     simp only [execOp]
     go_simp
     exact hK' _ _ ⟨_, rfl, Below.refl _ _, rfl⟩
    | 3, _ =>
     obtain ⟨s0, r0, _⟩ := hw 2 (by omega) (by kernel_rfl)
     have e0 : v 2 = .pointer (some ⟨b, k, none⟩) := r0
     rw [e0] at s0
     replace s0 : a.tmps[14]? = some (.pointer (some ⟨b, k, none⟩)) := s0
     refine wpOp_step rfl fun K' hK' => ?_
     rw [if_pos (wanted_plain rfl)]
     unfold Oper.wp
     simp only [execOp]
     go_simp
     exact hK' _ _ ⟨_, rfl, Below.refl _ _, rfl⟩
    | 4, _ =>
     obtain ⟨s0, r0, _⟩ := hw 3 (by omega) (by kernel_rfl)
     have e0 : v 3 = .pointer (some ⟨b, k + 10, none⟩) := r0
     rw [e0] at s0
     replace s0 : a.tmps[15]? = some (.pointer (some ⟨b, k + 10, none⟩)) := s0
     have cc := (hb.cell (p := ⟨b, k + 10, none⟩) HLB.out).trans L10.out
     refine wpOp_step rfl fun K' hK' => ?_
     rw [if_pos (wanted_plain rfl)]
     unfold Oper.wp
     simp only [execOp]
     go_simp
     exact hK' _ _ ⟨_, rfl, Below.refl _ _, rfl⟩
    | 5, _ =>
     obtain ⟨s0, r0, _⟩ := hw 4 (by omega) (by kernel_rfl)
     have e0 : v 4 = .slice A L c := r0
     rw [e0] at s0
     replace s0 : a.tmps[16]? = some (.slice A L c) := s0
     refine gw_t rfl (wanted_plain rfl) 104 16 _ _ rfl (fun v w => by go_simp) s0 ?_
     with_reducible refine (PC1.out w9 (chain2 HB1.out hb (Nat.le_refl _))).mono ?_
     rintro e w3 ⟨rfl, hb3⟩
     exact ⟨_, rfl, _, rfl, hb3, rfl⟩
    | 6, _ =>
     exact gw_move rfl (wanted_plain rfl) 2 _ rfl sl2 ⟨_, rfl, Below.refl _ _, rfl⟩
    | 7, _ =>
     obtain ⟨s0, r0, _⟩ := hw 6 (by omega) (by kernel_rfl)
     have e0 : v 6 = .pointer (some ⟨b', k', none⟩) := r0
     rw [e0] at s0
     replace s0 : a.tmps[18]? = some (.pointer (some ⟨b', k', none⟩)) := s0
     refine wpOp_step rfl fun K' hK' => ?_
     rw [if_pos (wanted_plain rfl)]
     unfold Oper.wp
     simp only [execOp]
     go_simp
     exact hK' _ _ ⟨_, rfl, Below.refl _ _, rfl⟩
    | 8, _ =>
     obtain ⟨s0, r0, _⟩ := hw 7 (by omega) (by kernel_rfl)
     have e0 : v 7 = .pointer (some ⟨b', k', none⟩) := r0
     rw [e0] at s0
     replace s0 : a.tmps[19]? = some (.pointer (some ⟨b', k', none⟩)) := s0
     refine wpOp_step rfl fun K' hK' => ?_
     rw [if_pos (wanted_plain rfl)]
     unfold Oper.wp
     simp only [execOp]
     go_simp
     exact hK' _ _ ⟨_, rfl, Below.refl _ _, rfl⟩
    | 9, _ =>
     obtain ⟨s0, r0, _⟩ := hw 8 (by omega) (by kernel_rfl)
     have e0 : v 8 = .pointer (some ⟨b', k' + 10, none⟩) := r0
     rw [e0] at s0
     replace s0 : a.tmps[20]? = some (.pointer (some ⟨b', k' + 10, none⟩)) := s0
     have cc := (hb.cell (p := ⟨b', k' + 10, none⟩) HMB.out).trans M10.out
     refine wpOp_step rfl fun K' hK' => ?_
     rw [if_pos (wanted_plain rfl)]
     unfold Oper.wp
     simp only [execOp]
     go_simp
     exact hK' _ _ ⟨_, rfl, Below.refl _ _, rfl⟩
    | 10, _ =>
     obtain ⟨s0, r0, _⟩ := hw 9 (by omega) (by kernel_rfl)
     have e0 : v 9 = .slice A' L c' := r0
     rw [e0] at s0
     replace s0 : a.tmps[21]? = some (.slice A' L c') := s0
     refine gw_t rfl (wanted_plain rfl) 104 21 _ _ rfl (fun v w => by go_simp) s0 ?_
     with_reducible refine (PC2.out w9 (chain2 HB1.out hb (Nat.le_refl _))).mono ?_
     rintro e w3 ⟨rfl, hb3⟩
     exact ⟨_, rfl, _, rfl, hb3, rfl⟩
   case done =>
    intro a w9 v lo hi' hdef hsz hoth hb hj hap
    obtain ⟨_, hv0, _, _⟩ := hj 0 (by omega)
    obtain ⟨_, hv5, _, _⟩ := hj 5 (by omega)
    obtain ⟨_, hv10, _, _⟩ := hj 10 (by omega)
    have ha := eq_puts hdef hsz hoth (fun i hi => (hj i hi).1)
    subst ha
    clear hj hoth hdef hsz hap
    change v 0 = _ at hv0
    change v 5 = _ at hv5
    change v 10 = _ at hv10
    simp only [puts, List.getD_cons_zero, List.getD_cons_succ, hv0, hv5, hv10]
    generalize v 1 = v1
    generalize v 2 = v2
    generalize v 3 = v3
    generalize v 4 = v4
    generalize v 6 = v6
    generalize v 7 = v7
    generalize v 8 = v8
    generalize v 9 = v9
    clear hv0 hv5 hv10
    simp only [Act.put, List.setIfInBounds_toArray, List.set_cons_zero, List.set_cons_succ]
    show wpList _ _ _ [_] _ _
    replace R1 := hI (R1.out.below hb)
    clear hb PC1 PC2 L10 M10
    go_wp2_with fail
    refine (hset.out _ R1.out).mono ?_
    rintro e w2 ⟨rfl, R2⟩
    have R2 := hI R2
    go_wp2
    go_ret
    exact ⟨rfl, R2.out.more (by omega)⟩
  | false =>
   clear hq
   go_enter Tryz.func108, Tryz.ntmps108
   go_wp2_with fail
   refine C1.out.mono ?_
   rintro e w1 ⟨rfl, hb1⟩
   have R1 := hI ((RunT.start HC.out).below hb1)
   have L10 := hI ((hb1.cell (p := ⟨b, k + 10, none⟩) HLB.out).trans L10w.out)
   have M10 := hI ((hb1.cell (p := ⟨b', k' + 10, none⟩) HMB.out).trans M10w.out)
   replace HLB := hI (Nat.lt_of_lt_of_le HLB.out hb1.size)
   replace HMB := hI (Nat.lt_of_lt_of_le HMB.out hb1.size)
   have HB1 := hI hb1
   clear hb1 C1
   go_wp2_with fail
   refine wp_region_grow (l := _) 11 (by kernel_rfl) (by kernel_rfl) (fun i => [12, 13, 14, 15, 16, 17, 18, 19, 20, 21, 22].getD i 0) (LR [LV (.pointer (some ⟨g, 0, none⟩)), LV (.pointer (some ⟨b, k, none⟩)), LV (.pointer (some ⟨b, k, none⟩)), LV (.pointer (some ⟨b, k + 10, none⟩)), LV (.slice A L c), LV (.agg #[p0, p1]), LV (.pointer (some ⟨b', k', none⟩)), LV (.pointer (some ⟨b', k', none⟩)), LV (.pointer (some ⟨b', k' + 10, none⟩)), LV (.slice A' L c'), LV (.agg #[q0, q1])]) (LR_mono ⟨mLV _, mLV _, mLV _, mLV _, mLV _, mLV _, mLV _, mLV _, mLV _, mLV _, mLV _, trivial⟩) (by
    intro i j hi hj h
    exact inj_getD [12, 13, 14, 15, 16, 17, 18, 19, 20, 21, 22] (by decide) i j hi hj h) (by
    intro i hi
    exact lt_getD 48 [12, 13, 14, 15, 16, 17, 18, 19, 20, 21, 22] (by decide) i hi) ?step ?done
   case step =>
    intro ii hii a w9 v lo hi' hoth hb hw
    have sl0 : a.tmps[0]? = some (.pointer (some ⟨g, 0, none⟩)) := (hoth 0 (fun j hj => ne_getD 0 _ (by decide) j hj)).trans rfl
    have sl1 : a.tmps[1]? = some (.pointer (some ⟨b, k, none⟩)) := (hoth 1 (fun j hj => ne_getD 1 _ (by decide) j hj)).trans rfl
    have sl2 : a.tmps[2]? = some (.pointer (some ⟨b', k', none⟩)) := (hoth 2 (fun j hj => ne_getD 2 _ (by decide) j hj)).trans rfl
    match ii, hii with
    | 0, _ =>
     exact gw_move rfl (wanted_plain rfl) 0 _ rfl sl0 ⟨_, rfl, Below.refl _ _, rfl⟩
    | 1, _ =>
     exact gw_move rfl (wanted_plain rfl) 1 _ rfl sl1 ⟨_, rfl, Below.refl _ _, rfl⟩
    | 2, _ =>
     obtain ⟨s0, r0, _⟩ := hw 1 (by omega) (by kernel_rfl)
     have e0 : v 1 = .pointer (some ⟨b, k, none⟩) := r0
     rw [e0] at s0
     replace s0 : a.tmps[13]? = some (.pointer (some ⟨b, k, none⟩)) := s0
     refine wpOp_step rfl fun K' hK' => ?_
     rw [if_pos (wanted_plain rfl)]
     unfold Oper.wp
     simp only [execOp]
     go_simp
     exact hK' _ _ ⟨_, rfl, Below.refl _ _, rfl⟩
    | 3, _ =>
     obtain ⟨s0, r0, _⟩ := hw 2 (by omega) (by kernel_rfl)
     have e0 : v 2 = .pointer (some ⟨b, k, none⟩) := r0
     rw [e0] at s0
     replace s0 : a.tmps[14]? = some (.pointer (some ⟨b, k, none⟩)) := s0
     refine wpOp_step rfl fun K' hK' => ?_
     rw [if_pos (wanted_plain rfl)]
     unfold Oper.wp
     simp only [execOp]
     go_simp
     exact hK' _ _ ⟨_, rfl, Below.refl _ _, rfl⟩
    | 4, _ =>
     obtain ⟨s0, r0, _⟩ := hw 3 (by omega) (by kernel_rfl)
     have e0 : v 3 = .pointer (some ⟨b, k + 10, none⟩) := r0
     rw [e0] at s0
     replace s0 : a.tmps[15]? = some (.pointer (some ⟨b, k + 10, none⟩)) := s0
     have cc := (hb.cell (p := ⟨b, k + 10, none⟩) HLB.out).trans L10.out
     refine wpOp_step rfl fun K' hK' => ?_
     rw [if_pos (wanted_plain rfl)]
     unfold Oper.wp
     simp only [execOp]
     go_simp
     exact hK' _ _ ⟨_, rfl, Below.refl _ _, rfl⟩
    | 5, _ =>
     obtain ⟨s0, r0, _⟩ := hw 4 (by omega) (by kernel_rfl)
     have e0 : v 4 = .slice A L c := r0
     rw [e0] at s0
     replace s0 : a.tmps[16]? = some (.slice A L c) := s0
     refine gw_t rfl (wanted_plain rfl) 104 16 _ _ rfl (fun v w => by go_simp) s0 ?_
     with_reducible refine (PC1.out w9 (chain2 HB1.out hb (Nat.le_refl _))).mono ?_
     rintro e w3 ⟨rfl, hb3⟩
     exact ⟨_, rfl, _, rfl, hb3, rfl⟩
    | 6, _ =>
     exact gw_move rfl (wanted_plain rfl) 2 _ rfl sl2 ⟨_, rfl, Below.refl _ _, rfl⟩
    | 7, _ =>
     obtain ⟨s0, r0, _⟩ := hw 6 (by omega) (by kernel_rfl)
     have e0 : v 6 = .pointer (some ⟨b', k', none⟩) := r0
     rw [e0] at s0
     replace s0 : a.tmps[18]? = some (.pointer (some ⟨b', k', none⟩)) := s0
     refine wpOp_step rfl fun K' hK' => ?_
     rw [if_pos (wanted_plain rfl)]
     unfold Oper.wp
     simp only [execOp]
     go_simp
     exact hK' _ _ ⟨_, rfl, Below.refl _ _, rfl⟩
    | 8, _ =>
     obtain ⟨s0, r0, _⟩ := hw 7 (by omega) (by kernel_rfl)
     have e0 : v 7 = .pointer (some ⟨b', k', none⟩) := r0
     rw [e0] at s0
     replace s0 : a.tmps[19]? = some (.pointer (some ⟨b', k', none⟩)) := s0
     refine wpOp_step rfl fun K' hK' => ?_
     rw [if_pos (wanted_plain rfl)]
     unfold Oper.wp
     simp only [execOp]
     go_simp
     exact hK' _ _ ⟨_, rfl, Below.refl _ _, rfl⟩
    | 9, _ =>
     obtain ⟨s0, r0, _⟩ := hw 8 (by omega) (by kernel_rfl)
     have e0 : v 8 = .pointer (some ⟨b', k' + 10, none⟩) := r0
     rw [e0] at s0
     replace s0 : a.tmps[20]? = some (.pointer (some ⟨b', k' + 10, none⟩)) := s0
     have cc := (hb.cell (p := ⟨b', k' + 10, none⟩) HMB.out).trans M10.out
     refine wpOp_step rfl fun K' hK' => ?_
     rw [if_pos (wanted_plain rfl)]
     unfold Oper.wp
     simp only [execOp]
     go_simp
     exact hK' _ _ ⟨_, rfl, Below.refl _ _, rfl⟩
    | 10, _ =>
     obtain ⟨s0, r0, _⟩ := hw 9 (by omega) (by kernel_rfl)
     have e0 : v 9 = .slice A' L c' := r0
     rw [e0] at s0
     replace s0 : a.tmps[21]? = some (.slice A' L c') := s0
     refine gw_t rfl (wanted_plain rfl) 104 21 _ _ rfl (fun v w => by go_simp) s0 ?_
     with_reducible refine (PC2.out w9 (chain2 HB1.out hb (Nat.le_refl _))).mono ?_
     rintro e w3 ⟨rfl, hb3⟩
     exact ⟨_, rfl, _, rfl, hb3, rfl⟩
   case done =>
    intro a w9 v lo hi' hdef hsz hoth hb hj hap
    obtain ⟨_, hv0, _, _⟩ := hj 0 (by omega)
    obtain ⟨_, hv5, _, _⟩ := hj 5 (by omega)
    obtain ⟨_, hv10, _, _⟩ := hj 10 (by omega)
    have ha := eq_puts hdef hsz hoth (fun i hi => (hj i hi).1)
    subst ha
    clear hj hoth hdef hsz hap
    change v 0 = _ at hv0
    change v 5 = _ at hv5
    change v 10 = _ at hv10
    simp only [puts, List.getD_cons_zero, List.getD_cons_succ, hv0, hv5, hv10]
    generalize v 1 = v1
    generalize v 2 = v2
    generalize v 3 = v3
    generalize v 4 = v4
    generalize v 6 = v6
    generalize v 7 = v7
    generalize v 8 = v8
    generalize v 9 = v9
    clear hv0 hv5 hv10
    simp only [Act.put, List.setIfInBounds_toArray, List.set_cons_zero, List.set_cons_succ]
    show wpList _ _ _ [_] _ _
    replace R1 := hI (R1.out.below hb)
    clear hb PC1 PC2 L10 M10
    go_wp2_with fail
    refine (hset.out _ R1.out).mono ?_
    rintro e w2 ⟨rfl, R2⟩
    have R2 := hI R2
    clear R1 hset
    have cw := cell_run L10w.out SB.out.1 HS.out HG.out R2.out
    go_wp2_with fail
    go_loopw [29] (fun v wr => ∃ (i hi : Nat), i ≤ L ∧ v = .int .i64 (i : Int) ∧ hi + Tm.nodesL (l.drop i) ≤ M ∧ Hid (eqTs (l.drop i) (l'.drop i) = r) ∧ Hid (RunT w wr g s hi)) (fun v _ => L - (intOf v).toNat)
    case atStart => exact ⟨0, s + 1, Nat.zero_le _, rfl, by rw [List.drop_zero]; exact hm1, by rw [List.drop_zero, List.drop_zero]; exact HR, R2⟩
    case round =>
     obtain ⟨i, hi, hiL, rfl, hhi, hE, hR⟩ := hrel
     obtain ⟨wo, rfl⟩ : ∃ wo : World, wo = wr := ⟨_, rfl⟩
     have j10 := cell_run L10w.out SB.out.1 HS.out HG.out hR.out
     have i10 := cell_run M10w.out SB.out.2 HS.out HG.out hR.out
     by_cases hlt : i < L
     · have hil : i < l.length := by rw [HL.out]; exact hlt
       have hil' : i < l'.length := by rw [HL'.out]; exact hlt
       obtain ⟨b1, o1, cs1, rfl, hP1⟩ := HA.out.arg hil
       obtain ⟨b2, o2, cs2, rfl, hP2⟩ := HA'.out.arg hil'
       have hE1 := hE.out
       rw [eqTs_drop hil hil'] at hE1
       have hs := Tm.nodesL_drop hil
       have CALL : Hid (∀ W, RunT w W g s hi → Calls Tryz.prog 108 #[.pointer (some ⟨g, 0, none⟩), .pointer (some ⟨b1, o1 + i * 11, none⟩), .pointer (some ⟨b2, o2 + i * 11, none⟩)] W (fun e w' => e = .returned (.bool (eqT l[i] l'[i])) ∧ RunT w w' g s (hi + l[i].nodes))) := fun W hr => by
        obtain ⟨hgr, k', hck, h1, h2⟩ := hr
        have hr : RunT w W g s hi := ⟨hgr, k', hck, h1, h2⟩
        refine (IH.out l[i] (List.getElem_mem hil) l'[i] b1 (o1 + i * 11) b2 (o2 + i * 11) cs1 cs2 W k' (hP1.run HS.out HG.out hr) (hP2.run HS.out HG.out hr) (Tm.bdL_mem bda.out (List.getElem_mem hil)) (Tm.bdL_mem bda'.out (List.getElem_mem hil')) (HS.out.later hgr.size) hck (by omega)).mono ?_
        rintro e w' ⟨he, hr'⟩
        exact ⟨he, (RunT.trans hgr h1 hr').more (by omega)⟩
       have hM2 : hi + l[i].nodes + Tm.nodesL (l.drop (i + 1)) ≤ M := by omega
       generalize eqT l[i] l'[i] = q at CALL hE1
       generalize l[i].nodes = qn at CALL hM2
       have HE1 := hI hE1
       clear hE hE1 hP1 hP2 hs R2 cw
       go_wp2_with fail
       go_still_tail 13, (by kernel_rfl)
       change wpList _ _ _ _ _ wo.drew
       have R3 := hI hR.out.drew
       clear hR j10 i10
       generalize wo.drew = w3 at R3 ⊢
       go_wp2_with fail
       refine (CALL.out _ R3.out).mono ?_
       rintro e w4 ⟨rfl, R4⟩
       have R4 := hI R4
       clear R3 CALL
       cases q with
       | false =>
        have er : r = false := by have := HE1.out; simpa using this.symm
        subst er
        go_wp2
        go_ret
        exact ⟨rfl, R4.out.more (by omega)⟩
       | true =>
        have HE2 : Hid (eqTs (l.drop (i + 1)) (l'.drop (i + 1)) = r) := by have := HE1.out; rw [Bool.true_and] at this; exact this
        clear HE1
        go_wp2
        go_roundw
        case rel => exact ⟨i + 1, hi + qn, by omega, by go_num, hM2, HE2, R4⟩
        case measure => simp [intOf]; omega
     · have hiL2 : i = L := by omega
       have hn2 : ¬ (i : Int) < L := by omega
       have er : r = true := by
        have := hE.out
        rw [hiL2, ← HL.out, List.drop_length, HL.out, ← HL'.out, List.drop_length] at this
        rw [← this]; exact eqTs_nil
       subst er
       clear hE hiL2 hlt R2 cw
       go_wp2
       go_ret
       exact ⟨rfl, hR.out.more (by omega)⟩
theorem agreeT (d : Nat) (hd : d ≤ 1000) (S : Nat → Prop) (g : Nat) (hg : ¬ S g) : ∀ (t t' : Tm) (b k b' k' : Nat) (cs cs' : List Value) (w : World) (s : Nat), TmP w S t b k cs → TmP w S t' b' k' cs' → t.bd d → t'.bd d → In S w → CtAt w g s → s + t.nodes ≤ 3000 →
 Calls Tryz.prog 108 #[.pointer (some ⟨g, 0, none⟩), .pointer (some ⟨b, k, none⟩), .pointer (some ⟨b', k', none⟩)] w (fun e w' => e = .returned (.bool (eqT t t')) ∧ RunT w w' g s (s + t.nodes)) := by
 intro t
 induction t using Tm.ind with
 | hv x => intro t' b k b' k' cs cs' w s h h' hb hb' hS hc hn; exact agreeStep d hd _ t' b k b' k' cs cs' w S g s h h' hb hb' hS hg hc hn (fun x hx => by simp [Tm.args] at hx)
 | hc o => intro t' b k b' k' cs cs' w s h h' hb hb' hS hc hn; exact agreeStep d hd _ t' b k b' k' cs cs' w S g s h h' hb hb' hS hg hc hn (fun x hx => by simp [Tm.args] at hx)
 | ha x l ih => intro t' b k b' k' cs cs' w s h h' hb hb' hS hc hn; exact agreeStep d hd _ t' b k b' k' cs cs' w S g s h h' hb hb' hS hg hc hn (fun x hx t' b k b' k' cs cs' W s' h1 h2 h3 h4 h5 h6 h7 => ih x hx t' b k b' k' cs cs' W s' h1 h2 h3 h4 h5 h6 h7)
theorem eqT_same2 (t t' : Tm) : eqT t t' = (t.kd == t'.kd && (t.nm.1.toList == t'.nm.1.toList && t.nm.2.toList == t'.nm.2.toList) && valE t t' && eqTs t.args t'.args) := by
 rw [eqT_same]
 unfold sameT
 cases h : eqTs t.args t'.args with
 | false => simp
 | true => simp [eqTs_len _ _ h]
theorem valR (t t' : Tm) (x0 x1 x2 x3 x4 x5 x6 y0 y1 y2 y3 y4 y5 y6 : Value) (w : World) (S : Nat → Prop) (hS : In S w) (hx : ValAt w S t [x0, x1, x2, x3, x4, x5, x6]) (hy : ValAt w S t' [y0, y1, y2, y3, y4, y5, y6]) (hk : t.kd = t'.kd) :
 ∀ W, Below w.heap.size w W → Calls Tryz.prog 53 #[.agg #[x0, x1, x2, x3, x4, x5, x6], .agg #[y0, y1, y2, y3, y4, y5, y6]] W (RetB W (valE t t')) := by
 intro W hw
 have Z : ∀ (a0 a1 a2 a3 a4 a5 a6 : Value), [a0, a1, a2, a3, a4, a5, a6] = zO → (Value.agg #[a0, a1, a2, a3, a4, a5, a6]) = .agg #[.int .i64 0, .string ⟨#[]⟩, .string ⟨#[]⟩, .string ⟨#[]⟩, .string ⟨#[]⟩, .string ⟨#[]⟩, .slice none 0 0] := by
  intro a0 a1 a2 a3 a4 a5 a6 h
  unfold zO at h
  simp only [List.cons.injEq, and_true] at h
  obtain ⟨rfl, rfl, rfl, rfl, rfl, rfl, rfl⟩ := h
  rfl
 cases t with
 | var s =>
  cases t' with
  | var s' => rw [Z _ _ _ _ _ _ _ hx, Z _ _ _ _ _ _ _ hy]; exact equalRZ W
  | con o => exact absurd hk (by simp [Tm.kd])
  | app s l => exact absurd hk (by simp [Tm.kd])
 | con o =>
  cases t' with
  | var s' => exact absurd hk (by simp [Tm.kd])
  | con o' =>
   obtain ⟨p, e1, hp⟩ := hx
   obtain ⟨p', e2, hp'⟩ := hy
   have h := equalO o o' p p' W S (hS.later hw.size) (hp.below hS hw) (hp'.below hS hw)
   unfold vO at h
   rw [← e1, ← e2] at h
   exact h
  | app s l => exact absurd hk (by simp [Tm.kd])
 | app s l =>
  cases t' with
  | var s' => exact absurd hk (by simp [Tm.kd])
  | con o' => exact absurd hk (by simp [Tm.kd])
  | app s' l' => rw [Z _ _ _ _ _ _ _ hx, Z _ _ _ _ _ _ _ hy]; exact equalRZ W
theorem equalRaw (w : World) (kd kd' : Int) (s1 s2 t1 t2 : ByteArray) (x0 x1 x2 x3 x4 x5 x6 y0 y1 y2 y3 y4 y5 y6 v v' : Value) (r q : Bool)
 (hc : kd = kd' → ∀ W, Below w.heap.size w W → Calls Tryz.prog 53 #[.agg #[x0, x1, x2, x3, x4, x5, x6], .agg #[y0, y1, y2, y3, y4, y5, y6]] W (RetB W r))
 (hq : ∀ W, Below w.heap.size w W → Calls Tryz.prog 68 #[v, v'] W (RetB W q)) :
 Calls Tryz.prog 17 #[.agg #[.int .i64 kd, .string s1, .string s2, x0, x1, x2, x3, x4, x5, x6, v], .agg #[.int .i64 kd', .string t1, .string t2, y0, y1, y2, y3, y4, y5, y6, v']] w (RetB w (kd == kd' && (s1.toList == t1.toList && s2.toList == t2.toList) && r && q)) := by
 have hA : Below w.heap.size w ((w.alloc (.cells #[.int .i64 kd, .string s1, .string s2, x0, x1, x2, x3, x4, x5, x6, v] 35)).alloc (.cells #[.int .i64 kd', .string t1, .string t2, y0, y1, y2, y3, y4, y5, y6, v'] 35)) := Below.alloc (Below.alloc (Below.refl _ _) (Nat.le_refl _) _) (by simp) _
 have B2 : TB ((w.alloc (.cells #[.int .i64 kd, .string s1, .string s2, x0, x1, x2, x3, x4, x5, x6, v] 35)).alloc (.cells #[.int .i64 kd', .string t1, .string t2, y0, y1, y2, y3, y4, y5, y6, v'] 35)) w.heap.size [.int .i64 kd, .string s1, .string s2, x0, x1, x2, x3, x4, x5, x6, v] := (Below.heap_alloc _ _ _ (by simp)).trans (heap_alloc_new w _)
 have B3 : TB ((w.alloc (.cells #[.int .i64 kd, .string s1, .string s2, x0, x1, x2, x3, x4, x5, x6, v] 35)).alloc (.cells #[.int .i64 kd', .string t1, .string t2, y0, y1, y2, y3, y4, y5, y6, v'] 35)) (w.heap.size + 1) [.int .i64 kd', .string t1, .string t2, y0, y1, y2, y3, y4, y5, y6, v'] := heap_new_at (by simp)
 have l0 := TB.cell B2 0 _ rfl
 have m0 := TB.cell B3 0 _ rfl
 have l1 := TB.cell B2 1 _ rfl
 have m1 := TB.cell B3 1 _ rfl
 have l2 := TB.cell B2 2 _ rfl
 have m2 := TB.cell B3 2 _ rfl
 have l3 := TB.cell B2 3 _ rfl
 have m3 := TB.cell B3 3 _ rfl
 have l4 := TB.cell B2 4 _ rfl
 have m4 := TB.cell B3 4 _ rfl
 have l5 := TB.cell B2 5 _ rfl
 have m5 := TB.cell B3 5 _ rfl
 have l6 := TB.cell B2 6 _ rfl
 have m6 := TB.cell B3 6 _ rfl
 have l7 := TB.cell B2 7 _ rfl
 have m7 := TB.cell B3 7 _ rfl
 have l8 := TB.cell B2 8 _ rfl
 have m8 := TB.cell B3 8 _ rfl
 have l9 := TB.cell B2 9 _ rfl
 have m9 := TB.cell B3 9 _ rfl
 have l10 := TB.cell B2 10 _ rfl
 have m10 := TB.cell B3 10 _ rfl
 have HA := hI hA
 clear hA B2 B3
 cases h0 : (kd == kd') with
 | false =>
  have hr : Hid ((false && (s1.toList == t1.toList && s2.toList == t2.toList) && r && q) = false) := by show _ = _; simp
  rw [hr.out]
  clear hc hq
  go_enter Tryz.func17, Tryz.ntmps17
  go_wp2_with fail
  go_ret
  exact ⟨rfl, HA.out⟩

 | true =>
  cases h1 : (s1.toList == t1.toList) with
  | false =>
   have hr : Hid ((true && (false && s2.toList == t2.toList) && r && q) = false) := by show _ = _; simp
   rw [hr.out]
   clear hc hq
   go_enter Tryz.func17, Tryz.ntmps17
   go_wp2_with fail
   go_ret
   exact ⟨rfl, HA.out⟩

  | true =>
   cases h2 : (s2.toList == t2.toList) with
   | false =>
    have hr : Hid ((true && (true && false) && r && q) = false) := by show _ = _; simp
    rw [hr.out]
    clear hc hq
    go_enter Tryz.func17, Tryz.ntmps17
    go_wp2_with fail
    go_ret
    exact ⟨rfl, HA.out⟩

   | true =>
    have HC := hI (hc (eq_of_beq h0) _ HA.out)
    have hr : Hid ((true && (true && true) && r && q) = (r && q)) := by show _ = _; simp
    rw [hr.out]
    clear hr hc
    cases r with
    | false =>
     have hr : Hid ((false && q) = false) := rfl
     rw [hr.out]
     clear hr hq
     go_enter Tryz.func17, Tryz.ntmps17
     go_wp2_with fail
     refine HC.out.mono ?_
     rintro e w3 ⟨rfl, hb3⟩
     have HB := hI (HA.out.trans (hb3.mono HA.out.size))
     clear hb3 l0 m0 l1 m1 l2 m2 l3 m3 l4 m4 l5 m5 l6 m6 l7 m7 l8 m8 l9 m9 l10 m10
     go_wp2_with fail
     go_ret
     exact ⟨rfl, HB.out⟩
    | true =>
     have hr : Hid ((true && q) = q) := rfl
     rw [hr.out]
     clear hr
     have HQ := hI hq
     have HL10 := hI l10
     have HM10 := hI m10
     clear hq
     go_enter Tryz.func17, Tryz.ntmps17
     go_wp2_with fail
     refine HC.out.mono ?_
     rintro e w3 ⟨rfl, hb3⟩
     have k10 := (hb3.cell (p := ⟨w.heap.size, 10, none⟩) (World.block_lt_of_cell? _ _ HL10.out)).trans HL10.out
     have n10 := (hb3.cell (p := ⟨w.heap.size + 1, 10, none⟩) (World.block_lt_of_cell? _ _ HM10.out)).trans HM10.out
     have HB := hI (HA.out.trans (hb3.mono HA.out.size))
     clear hb3 l0 m0 l1 m1 l2 m2 l3 m3 l4 m4 l5 m5 l6 m6 l7 m7 l8 m8 l9 m9 l10 m10 HL10 HM10
     go_wp2_with fail
     refine (HQ.out _ HB.out).mono ?_
     rintro e w4 ⟨rfl, hb4⟩
     have HB4 := hI (HB.out.trans (hb4.mono HB.out.size))
     clear hb4 k10 n10
     go_wp2_with fail
     go_ret
     exact ⟨rfl, HB4.out⟩
theorem Tm.indA {P : Tm → Prop} (h : ∀ t, (∀ x ∈ t.args, P x) → P t) (t : Tm) : P t := by
 induction t using Tm.ind with
 | hv s => exact h _ fun x hx => by simp [Tm.args] at hx
 | hc o => exact h _ fun x hx => by simp [Tm.args] at hx
 | ha s l ih => exact h _ fun x hx => ih x hx
def EaW (W wo : World) (l l' : List Tm) (i : Nat) (R : Bool) : Prop := eqTs (l.drop i) (l'.drop i) = R ∧ Below W.heap.size W wo
theorem equalAllR (l l' : List Tm) (v v' : Value) (w : World) (S : Nat → Prop) (hS : In S w) (ha : TsV w S l v) (ha' : TsV w S l' v') (hn : l.length ≤ 3000)
 (ke : ∀ x ∈ l, ∀ (t' : Tm) (W : World) (cs cs' : List Value), Below w.heap.size w W → TmAt W S x cs → TmAt W S t' cs' → Calls Tryz.prog 17 #[vTm cs, vTm cs'] W (RetB W (eqT x t'))) :
 Calls Tryz.prog 68 #[v, v'] w (RetB w (eqTs l l')) := by
 obtain ⟨A, c, rfl, ha⟩ := ha
 obtain ⟨A', c', rfl, ha'⟩ := ha'
 by_cases hll : l.length = l'.length
 · obtain ⟨L, hL⟩ : ∃ L, l.length = L := ⟨_, rfl⟩
   obtain ⟨R, hR⟩ : ∃ R, eqTs l l' = R := ⟨_, rfl⟩
   have HA := hI ha
   have HA' := hI ha'
   have HS := hI hS
   have HI : Hid (∀ i (hi : i < l.length), ∀ (t' : Tm) (W : World) (cs cs' : List Value), Below w.heap.size w W → TmAt W S l[i] cs → TmAt W S t' cs' → Calls Tryz.prog 17 #[vTm cs, vTm cs'] W (RetB W (eqT l[i] t'))) := fun i hi => ke _ (List.getElem_mem hi)
   have HC1 : Hid (L ≤ c) := hL ▸ ha.1
   have HC2 : Hid (L ≤ c') := by show _ ≤ _; rw [← hL, hll]; exact ha'.1
   have hL' : l'.length = L := by rw [← hll]; exact hL
   rw [hL] at hn
   rw [hR, hL', hL]
   have h0 : Hid (EaW w w l l' 0 R) := ⟨by rw [List.drop_zero, List.drop_zero]; exact hR, Below.refl _ _⟩
   have HL := hI hL
   have HL' := hI hL'
   clear ha ha' hS ke hL hL' hll hR
   go_enter Tryz.func68, Tryz.ntmps68
   go_wp2_with fail
   go_loopw [5] (fun v wr => ∃ (i : Nat), i ≤ L ∧ v = .int .i64 (i : Int) ∧ Hid (EaW w wr l l' i R)) (fun v _ => L - (intOf v).toNat)
   case atStart => exact ⟨0, Nat.zero_le _, rfl, h0⟩
   case round =>
    clear h0
    obtain ⟨i, hiL, rfl, hE⟩ := hrel
    obtain ⟨wo, rfl⟩ : ∃ wo : World, wo = wr := ⟨_, rfl⟩
    obtain ⟨hf, hbel⟩ := hE.out
    by_cases hlt : i < L
    · have hil : i < l.length := by rw [HL.out]; exact hlt
      have hil' : i < l'.length := by rw [HL'.out]; exact hlt
      obtain ⟨b, o, cs, rfl, hP⟩ := HA.out.arg hil
      obtain ⟨b', o', cs', rfl, hP'⟩ := HA'.out.arg hil'
      have hQ := hP.below HS.out hbel
      have hQ' := hP'.below HS.out hbel
      obtain ⟨x0, x1, x2, x3, x4, x5, x6, A1, c1, ecs, _, _, l0, l1, l2, l3, l4, l5, l6, l7, l8, l9, l10⟩ := hQ.cells
      obtain ⟨y0, y1, y2, y3, y4, y5, y6, A2, c2, ecs', _, _, m0, m1, m2, m3, m4, m5, m6, m7, m8, m9, m10⟩ := hQ'.cells
      subst ecs ecs'
      have HLB : Hid (b < wo.heap.size) := Nat.lt_of_lt_of_le (HS.out b hP.1.1) hbel.size
      have HMB : Hid (b' < wo.heap.size) := Nat.lt_of_lt_of_le (HS.out b' hP'.1.1) hbel.size
      have CALL : Hid (∀ X, Below wo.heap.size wo X → Calls Tryz.prog 17 #[vTm [.int .i64 l[i].kd, .string l[i].nm.1, .string l[i].nm.2, x0, x1, x2, x3, x4, x5, x6, .slice A1 l[i].args.length c1], vTm [.int .i64 l'[i].kd, .string l'[i].nm.1, .string l'[i].nm.2, y0, y1, y2, y3, y4, y5, y6, .slice A2 l'[i].args.length c2]] X (RetB X (eqT l[i] l'[i]))) := fun X hX =>
       HI.out i hil l'[i] X _ _ (hbel.trans (hX.mono hbel.size)) (hQ.2.1.below (HS.out.later hbel.size) hX) (hQ'.2.1.below (HS.out.later hbel.size) hX)
      have hstep := eqTs_drop hil hil'
      rw [hf] at hstep
      have HST := hI hstep
      have HB0 := hI hbel
      have HLT := hI hlt
      obtain ⟨r, hr⟩ : ∃ r, eqT l[i] l'[i] = r := ⟨_, rfl⟩
      rw [hr] at HST CALL
      unfold vTm at CALL
      generalize l[i] = x at *
      generalize l'[i] = y at *
      have L0 := hI l0
      have M0 := hI m0
      have L1 := hI l1
      have M1 := hI m1
      have L2 := hI l2
      have M2 := hI m2
      have L3 := hI l3
      have M3 := hI m3
      have L4 := hI l4
      have M4 := hI m4
      have L5 := hI l5
      have M5 := hI m5
      have L6 := hI l6
      have M6 := hI m6
      have L7 := hI l7
      have M7 := hI m7
      have L8 := hI l8
      have M8 := hI m8
      have L9 := hI l9
      have M9 := hI m9
      have L10 := hI l10
      have M10 := hI m10
      clear l0 m0 l1 m1 l2 m2 l3 m3 l4 m4 l5 m5 l6 m6 l7 m7 l8 m8 l9 m9 l10 m10 hP hP' hQ hQ' hf hE hbel hstep
      go_wp2_with fail
      refine wp_region_grow (l := _) 9 (by kernel_rfl) (by kernel_rfl) (fun i => [17, 18, 19, 20, 21, 22, 23, 24, 25].getD i 0) (LR [LV (.slice (some ⟨b, o, none⟩) L c), LV (.int .i64 (i : Int)), LV (.pointer (some ⟨b, o + i * 11, none⟩)), LV (.agg #[.int .i64 x.kd, .string x.nm.1, .string x.nm.2, x0, x1, x2, x3, x4, x5, x6, .slice A1 x.args.length c1]), LV (.slice (some ⟨b', o', none⟩) L c'), LV (.int .i64 (i : Int)), LV (.pointer (some ⟨b', o' + i * 11, none⟩)), LV (.agg #[.int .i64 y.kd, .string y.nm.1, .string y.nm.2, y0, y1, y2, y3, y4, y5, y6, .slice A2 y.args.length c2]), LV (.bool r)]) (LR_mono ⟨mLV _, mLV _, mLV _, mLV _, mLV _, mLV _, mLV _, mLV _, mLV _, trivial⟩) (by
       intro i j hi hj h
       exact inj_getD [17, 18, 19, 20, 21, 22, 23, 24, 25] (by decide) i j hi hj h) (by
       intro i hi
       exact lt_getD 27 [17, 18, 19, 20, 21, 22, 23, 24, 25] (by decide) i hi) ?step ?done
      case step =>
       intro ii hii a w9 v lo hi' hoth hb hw
       have sl0 : a.tmps[0]? = some (.slice (some ⟨b, o, none⟩) L c) := (hoth 0 (fun j hj => ne_getD 0 _ (by decide) j hj)).trans rfl
       have sl1 : a.tmps[1]? = some (.slice (some ⟨b', o', none⟩) L c') := (hoth 1 (fun j hj => ne_getD 1 _ (by decide) j hj)).trans rfl
       have sl5 : a.tmps[5]? = some (.int .i64 (i : Int)) := (hoth 5 (fun j hj => ne_getD 5 _ (by decide) j hj)).trans rfl
       match ii, hii with
       | 0, _ =>
        exact gw_move rfl (wanted_plain rfl) 0 _ rfl sl0 ⟨_, rfl, Below.refl _ _, rfl⟩
       | 1, _ =>
        exact gw_move rfl (wanted_plain rfl) 5 _ rfl sl5 ⟨_, rfl, Below.refl _ _, rfl⟩
       | 2, _ =>
        obtain ⟨s0, r0, _⟩ := hw 0 (by omega) (by kernel_rfl)
        have e0 : v 0 = .slice (some ⟨b, o, none⟩) L c := r0
        rw [e0] at s0
        replace s0 : a.tmps[17]? = some (.slice (some ⟨b, o, none⟩) L c) := s0
        obtain ⟨s1, r1, _⟩ := hw 1 (by omega) (by kernel_rfl)
        have e1 : v 1 = .int .i64 (i : Int) := r1
        rw [e1] at s1
        replace s1 : a.tmps[18]? = some (.int .i64 (i : Int)) := s1
        have hil := HLT.out
        have hcL := HC1.out
        refine wpOp_step rfl fun K' hK' => ?_
        rw [if_pos (wanted_plain rfl)]
        unfold Oper.wp
        simp only [execOp]
        go_simp
        exact hK' _ _ ⟨_, rfl, Below.refl _ _, rfl⟩
       | 3, _ =>
        obtain ⟨s0, r0, _⟩ := hw 2 (by omega) (by kernel_rfl)
        have e0 : v 2 = .pointer (some ⟨b, o + i * 11, none⟩) := r0
        rw [e0] at s0
        replace s0 : a.tmps[19]? = some (.pointer (some ⟨b, o + i * 11, none⟩)) := s0
        have cc0 := (hb.cell (p := ⟨b, o + i * 11, none⟩) HLB.out).trans L0.out
        have cc1 := (hb.cell (p := ⟨b, o + i * 11 + 1, none⟩) HLB.out).trans L1.out
        have cc2 := (hb.cell (p := ⟨b, o + i * 11 + 2, none⟩) HLB.out).trans L2.out
        have cc3 := (hb.cell (p := ⟨b, o + i * 11 + 3, none⟩) HLB.out).trans L3.out
        have cc4 := (hb.cell (p := ⟨b, o + i * 11 + 4, none⟩) HLB.out).trans L4.out
        have cc5 := (hb.cell (p := ⟨b, o + i * 11 + 5, none⟩) HLB.out).trans L5.out
        have cc6 := (hb.cell (p := ⟨b, o + i * 11 + 6, none⟩) HLB.out).trans L6.out
        have cc7 := (hb.cell (p := ⟨b, o + i * 11 + 7, none⟩) HLB.out).trans L7.out
        have cc8 := (hb.cell (p := ⟨b, o + i * 11 + 8, none⟩) HLB.out).trans L8.out
        have cc9 := (hb.cell (p := ⟨b, o + i * 11 + 9, none⟩) HLB.out).trans L9.out
        have cc10 := (hb.cell (p := ⟨b, o + i * 11 + 10, none⟩) HLB.out).trans L10.out
        refine wpOp_step rfl fun K' hK' => ?_
        rw [if_pos (wanted_plain rfl)]
        unfold Oper.wp
        simp only [execOp]
        go_simp
        exact hK' _ _ ⟨_, rfl, Below.refl _ _, rfl⟩
       | 4, _ =>
        exact gw_move rfl (wanted_plain rfl) 1 _ rfl sl1 ⟨_, rfl, Below.refl _ _, rfl⟩
       | 5, _ =>
        exact gw_move rfl (wanted_plain rfl) 5 _ rfl sl5 ⟨_, rfl, Below.refl _ _, rfl⟩
       | 6, _ =>
        obtain ⟨s0, r0, _⟩ := hw 4 (by omega) (by kernel_rfl)
        have e0 : v 4 = .slice (some ⟨b', o', none⟩) L c' := r0
        rw [e0] at s0
        replace s0 : a.tmps[21]? = some (.slice (some ⟨b', o', none⟩) L c') := s0
        obtain ⟨s1, r1, _⟩ := hw 5 (by omega) (by kernel_rfl)
        have e1 : v 5 = .int .i64 (i : Int) := r1
        rw [e1] at s1
        replace s1 : a.tmps[22]? = some (.int .i64 (i : Int)) := s1
        have hil := HLT.out
        have hcL := HC2.out
        refine wpOp_step rfl fun K' hK' => ?_
        rw [if_pos (wanted_plain rfl)]
        unfold Oper.wp
        simp only [execOp]
        go_simp
        exact hK' _ _ ⟨_, rfl, Below.refl _ _, rfl⟩
       | 7, _ =>
        obtain ⟨s0, r0, _⟩ := hw 6 (by omega) (by kernel_rfl)
        have e0 : v 6 = .pointer (some ⟨b', o' + i * 11, none⟩) := r0
        rw [e0] at s0
        replace s0 : a.tmps[23]? = some (.pointer (some ⟨b', o' + i * 11, none⟩)) := s0
        have cc0 := (hb.cell (p := ⟨b', o' + i * 11, none⟩) HMB.out).trans M0.out
        have cc1 := (hb.cell (p := ⟨b', o' + i * 11 + 1, none⟩) HMB.out).trans M1.out
        have cc2 := (hb.cell (p := ⟨b', o' + i * 11 + 2, none⟩) HMB.out).trans M2.out
        have cc3 := (hb.cell (p := ⟨b', o' + i * 11 + 3, none⟩) HMB.out).trans M3.out
        have cc4 := (hb.cell (p := ⟨b', o' + i * 11 + 4, none⟩) HMB.out).trans M4.out
        have cc5 := (hb.cell (p := ⟨b', o' + i * 11 + 5, none⟩) HMB.out).trans M5.out
        have cc6 := (hb.cell (p := ⟨b', o' + i * 11 + 6, none⟩) HMB.out).trans M6.out
        have cc7 := (hb.cell (p := ⟨b', o' + i * 11 + 7, none⟩) HMB.out).trans M7.out
        have cc8 := (hb.cell (p := ⟨b', o' + i * 11 + 8, none⟩) HMB.out).trans M8.out
        have cc9 := (hb.cell (p := ⟨b', o' + i * 11 + 9, none⟩) HMB.out).trans M9.out
        have cc10 := (hb.cell (p := ⟨b', o' + i * 11 + 10, none⟩) HMB.out).trans M10.out
        refine wpOp_step rfl fun K' hK' => ?_
        rw [if_pos (wanted_plain rfl)]
        unfold Oper.wp
        simp only [execOp]
        go_simp
        exact hK' _ _ ⟨_, rfl, Below.refl _ _, rfl⟩
       | 8, _ =>
        obtain ⟨s0, r0, _⟩ := hw 3 (by omega) (by kernel_rfl)
        have e0 : v 3 = .agg #[.int .i64 x.kd, .string x.nm.1, .string x.nm.2, x0, x1, x2, x3, x4, x5, x6, .slice A1 x.args.length c1] := r0
        rw [e0] at s0
        replace s0 : a.tmps[20]? = some (.agg #[.int .i64 x.kd, .string x.nm.1, .string x.nm.2, x0, x1, x2, x3, x4, x5, x6, .slice A1 x.args.length c1]) := s0
        obtain ⟨s1, r1, _⟩ := hw 7 (by omega) (by kernel_rfl)
        have e1 : v 7 = .agg #[.int .i64 y.kd, .string y.nm.1, .string y.nm.2, y0, y1, y2, y3, y4, y5, y6, .slice A2 y.args.length c2] := r1
        rw [e1] at s1
        replace s1 : a.tmps[24]? = some (.agg #[.int .i64 y.kd, .string y.nm.1, .string y.nm.2, y0, y1, y2, y3, y4, y5, y6, .slice A2 y.args.length c2]) := s1
        refine gw_tt rfl (wanted_plain rfl) 17 20 24 _ _ _ rfl (fun v u w => by go_simp) s0 s1 ?_
        with_reducible refine (CALL.out w9 hb).mono ?_
        rintro e w3 ⟨rfl, hb3⟩
        exact ⟨_, rfl, _, rfl, hb3, rfl⟩
      case done =>
       intro a w9 v lo hi' hdef hsz hoth hb hj hap
       obtain ⟨_, hv8, _, _⟩ := hj 8 (by omega)
       have ha := eq_puts hdef hsz hoth (fun i hi => (hj i hi).1)
       subst ha
       clear hj hoth hdef hsz hap
       change v 8 = _ at hv8
       simp only [puts, List.getD_cons_zero, List.getD_cons_succ, hv8]
       generalize v 0 = v0
       generalize v 1 = v1
       generalize v 2 = v2
       generalize v 3 = v3
       generalize v 4 = v4
       generalize v 5 = v5
       generalize v 6 = v6
       generalize v 7 = v7
       clear hv8
       simp only [Act.put, List.setIfInBounds_toArray, List.set_cons_zero, List.set_cons_succ]
       show wpList _ _ _ [_] _ _
       have HB := hI (HB0.out.trans (hb.mono HB0.out.size))
       clear hb CALL
       cases r with
       | true =>
        go_wp2_with fail
        go_roundw
        case rel => exact ⟨i + 1, by have := HLT.out; omega, by go_num, ⟨by have := HST.out; rw [this]; rfl, HB.out⟩⟩
        case measure => have := HLT.out; simp [intOf]; omega
       | false =>
        have hR : R = false := by rw [HST.out]; rfl
        subst hR
        go_wp2_with fail
        go_ret
        exact ⟨rfl, HB.out⟩
    · have hiL2 : i = L := by omega
      have hn : ¬ (i : Int) < L := by omega
      have hR : R = true := by
       rw [← hf, hiL2, ← HL.out, List.drop_length, HL.out, ← HL'.out, List.drop_length]
       exact eqTs_nil
      subst hR
      have HB := hI hbel
      clear hE hbel hf hlt
      go_wp2
      go_ret
      exact ⟨rfl, HB.out⟩
 · have hR : eqTs l l' = false := by
    cases h : eqTs l l' with
    | false => rfl
    | true => exact absurd (eqTs_len _ _ h) hll
   rw [hR]
   have hne : ((l.length : Int) == (l'.length : Int)) = false := by rw [beq_eq_false_iff_ne]; omega
   have hne2 : ¬ (l.length : Int) = (l'.length : Int) := by omega
   clear ha ha' hR ke hS hll
   generalize l.length = n at *
   generalize l'.length = n' at *
   go_enter Tryz.func68, Tryz.ntmps68
   go_wp2_with fail
   go_ret
   exact ⟨rfl, Below.refl _ _⟩
theorem equalR (S : Nat → Prop) : ∀ (t t' : Tm) (w : World) (cs cs' : List Value), In S w → t.nodes ≤ 3000 → TmAt w S t cs → TmAt w S t' cs' →
 Calls Tryz.prog 17 #[vTm cs, vTm cs'] w (RetB w (eqT t t')) := by
 intro t
 induction t using Tm.indA with
 | h t ih =>
  intro t' w cs cs' hS hn h h'
  obtain ⟨x0, x1, x2, x3, x4, x5, x6, A, c, rfl, hv, ha⟩ := h.eleven
  obtain ⟨y0, y1, y2, y3, y4, y5, y6, A', c', rfl, hv', ha'⟩ := h'.eleven
  rw [eqT_same2]
  have hna := t.nodes_args
  have hl := Tm.nodesL_len t.args
  refine equalRaw w t.kd t'.kd t.nm.1 t.nm.2 t'.nm.1 t'.nm.2 x0 x1 x2 x3 x4 x5 x6 y0 y1 y2 y3 y4 y5 y6 _ _ (valE t t') (eqTs t.args t'.args) (fun hk => valR t t' x0 x1 x2 x3 x4 x5 x6 y0 y1 y2 y3 y4 y5 y6 w S hS hv hv' hk) fun W hw => ?_
  exact equalAllR t.args t'.args _ _ W S (hS.later hw.size) ⟨A, c, rfl, ha.below hS hw⟩ ⟨A', c', rfl, ha'.below hS hw⟩ (by omega) fun x hx t' X cs cs' hX k k' => ih x hx t' X cs cs' (hS.later (chain2 hw hX (Nat.le_refl _)).size) (by have := Tm.nodes_mem hx; omega) k k'
end Go.Proofs.YtinjhnnpbejccaaGreatDoor
