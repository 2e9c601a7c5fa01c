/- A walk over subterms: what is yielded. -/
import Derived.Test.YtinjhnnpbejccaaGreatDoorG19
import Derived.Test.YtinjhnnpbejccaaGreatDoorG23
import Derived.Test.YtinjhnnpbejccaaGreatDoorG20
import Derived.RangeFuncNested
import Derived.RangeFuncBound
import Derived.RangeFuncCalls
import Derived.RangeFuncLeaves
import Derived.OwnWalkIn
import Derived.TacticsInMore
import Derived.LoopNIn
import Derived.LoopIn
import Derived.Test.YtinjhnnpbejccaaGreatDoorG21
import Derived.DeepKeys5
import Derived.Maps.OwnIn
import Derived.Test.YtinjhnnpbejccaaGreatDoorG17
namespace Go.Proofs.YtinjhnnpbejccaaGreatDoor
open Go Go.RowKit
set_option linter.unusedVariables false
set_option maxHeartbeats 32000000
set_option maxRecDepth 100000
mutual
def subsT : Tm → List Tm
 | .var s => [.var s]
 | .con o => [.con o]
 | .app s l => .app s l :: subsTs l
def subsTs : List Tm → List Tm
 | [] => []
 | t :: l => subsT t ++ subsTs l
end
theorem subsT_eq (t : Tm) : subsT t = t :: subsTs t.args := by
 cases t <;> (unfold subsT Tm.args)
 · unfold subsTs; rfl
 · unfold subsTs; rfl
 · rfl
theorem subsTs_mem {l : List Tm} {t u : Tm} (ht : t ∈ l) (hu : u ∈ subsT t) : u ∈ subsTs l := by
 induction l with
 | nil => simp at ht
 | cons x l ih =>
  unfold subsTs
  rcases List.mem_cons.1 ht with rfl | h
  · exact List.mem_append.2 (.inl hu)
  · exact List.mem_append.2 (.inr (ih h))
theorem subsT_self (t : Tm) : t ∈ subsT t := by rw [subsT_eq]; exact List.mem_cons_self
theorem subsT_arg {t x u : Tm} (hx : x ∈ t.args) (hu : u ∈ subsT x) : u ∈ subsT t := by rw [subsT_eq]; exact List.mem_cons_of_mem _ (subsTs_mem hx hu)
theorem subsTs_drop {l : List Tm} {i : Nat} (hi : i < l.length) : subsTs (l.drop i) = subsT l[i] ++ subsTs (l.drop (i + 1)) := by
 rw [List.drop_eq_getElem_cons hi]; conv => lhs; unfold subsTs
def keepO : Obj → Bool
 | .cells _ t _ => t != 23
 | _ => false
theorem keepO_cells {o : Obj} (h : keepO o = true) : o.isCells = true := by
 cases o <;> first | rfl | (simp [keepO] at h)
structure KeepC (B0 : Nat) (M : Nat → Prop) (W W' : World) : Prop where
 size : W.heap.size ≤ W'.heap.size
 same : ∀ k o, W.heap[k]? = some o → ¬ M k → (k < B0 ∨ keepO o = true) → W'.heap[k]? = some o
theorem KeepC.refl {B0 : Nat} {M : Nat → Prop} (W : World) : KeepC B0 M W W := ⟨Nat.le_refl _, fun _ _ h _ _ => h⟩
theorem KeepC.trans {B0 : Nat} {M : Nat → Prop} {A B C : World} (h : KeepC B0 M A B) (k : KeepC B0 M B C) : KeepC B0 M A C :=
 ⟨Nat.le_trans h.size k.size, fun i o ho hm hc => k.same i o (h.same i o ho hm hc) hm hc⟩
theorem KeepC.of_below {B0 : Nat} {M : Nat → Prop} {W W' : World} (h : Below W.heap.size W W') : KeepC B0 M W W' :=
 ⟨h.size, fun k o hk _ _ => (h.block k (Array.getElem?_eq_some_iff.1 hk).1).trans hk⟩
theorem KeepC.old {B0 : Nat} {M : Nat → Prop} {W W' : World} (h : KeepC B0 M W W') (hB : B0 ≤ W.heap.size) {k : Nat} (hk : k < B0) (hm : ¬ M k) : W'.heap[k]? = W.heap[k]? := by
 have hlt : k < W.heap.size := by omega
 rw [h.same k W.heap[k] (by rw [Array.getElem?_eq_getElem hlt]) hm (.inl hk), Array.getElem?_eq_getElem hlt]
theorem KeepC.row {B0 : Nat} {M : Nat → Prop} {W W' : World} (h : KeepC B0 M W W') {k : Nat} {cs : Array Value} {t : TypeId} {fr : Nat × Nat} (hk : W.heap[k]? = some (.cells cs t fr)) (hm : ¬ M k) (ht : (t != 23) = true) : W'.heap[k]? = some (.cells cs t fr) := h.same k _ hk hm (.inr ht)
def NmOk (t : Tm) : Prop := t.nm.1.size ≤ maxLen ∧ t.nm.2.size ≤ maxLen
abbrev Spot (w0 : World) (S : Nat → Prop) := { x : Nat × Nat × Tm // ∃ cs, TmP w0 S x.2.2 x.1 x.2.1 cs ∧ NmOk x.2.2 }
def Spot.tm {w0 : World} {S : Nat → Prop} (x : Spot w0 S) : Tm := x.1.2.2
structure ItC (w0 : World) (S M : Nat → Prop) (B0 l N : Nat) (J Jx : List (Spot w0 S) → World → Prop) : Prop where
 hS : ∀ b, S b → b < B0 ∧ ¬ M b
 hB : B0 ≤ w0.heap.size
 hM : ∀ b, M b → b < B0
 jb : ∀ pre W W', J pre W → Below W.heap.size W W' → J pre W'
 jx : ∀ pre W W', Jx pre W → Below W.heap.size W W' → Jx pre W'
 hY : ∀ m pre (x : Spot w0 S) W, J pre W → pre.length < N → YieldAt Fence.wide m Tryz.prog l #[.pointer (some ⟨x.1.1, x.1.2.1, none⟩)] W fun e W' => (e = .returned (.bool true) ∧ J (pre ++ [x]) W' ∧ KeepC B0 M W W') ∨ (e = .returned (.bool false) ∧ Jx (pre ++ [x]) W')
theorem ItC.tmP {w0 W : World} {S M : Nat → Prop} {B0 l N : Nat} {J Jx : List (Spot w0 S) → World → Prop} (C : ItC w0 S M B0 l N J Jx) (hk : KeepC B0 M w0 W) {t : Tm} {b k : Nat} {cs : List Value} (h : TmP w0 S t b k cs) : TmP W S t b k cs :=
 h.keep (fun _ h => h) fun b hb => hk.old C.hB (C.hS b hb).1 (C.hS b hb).2
def VisQ {w0 : World} {S : Nat → Prop} (B0 : Nat) (M : Nat → Prop) (J Jx : List (Spot w0 S) → World → Prop) (pre : List (Spot w0 S)) (L : List Tm) (W : World) (r : Bool) (W' : World) : Prop :=
 (r = true ∧ ∃ xs : List (Spot w0 S), xs.map Spot.tm = L ∧ J (pre ++ xs) W' ∧ KeepC B0 M W W') ∨ (r = false ∧ ∃ xs : List (Spot w0 S), xs.map Spot.tm <+: L ∧ Jx (pre ++ xs) W')
def RetV {w0 : World} {S : Nat → Prop} (B0 : Nat) (M : Nat → Prop) (J Jx : List (Spot w0 S) → World → Prop) (pre : List (Spot w0 S)) (L : List Tm) (W : World) (e : Ending) (W' : World) : Prop :=
 ∃ r, e = .returned (.bool r) ∧ VisQ B0 M J Jx pre L W r W'
theorem yieldAny {m m' : Nat} {P : Program} {l : Nat} {args : Array Value} {W : World} {R : Ending → World → Prop} (h : YieldAt Fence.wide m P l args W R) : YieldAt Fence.wide m' P l args W R := by
 obtain ⟨fn, tmps, assign, body, hy, hR⟩ := h
 exact ⟨fn, tmps, assign, body, hy, hR.1, fun c cs _ => hR.2 c cs (fun d h => by cases h)⟩
theorem recallQ (p q c0 c1 c2 : Value) (Q : Bool → World → Prop) (w : World) (hp : p.oneCell' = true) (hq : q.oneCell' = true)
 (hc : ∀ W, Below w.heap.size w W → Calls Tryz.prog 135 #[c0, c1, c2] W (fun e w' => ∃ r, e = .returned (.bool r) ∧ Q r w')) :
 Calls Tryz.prog 134 #[.pointer none, .agg #[p, q], .func (.func 135) #[] #[c0, c1, c2]] w (fun e w' => ∃ r, e = .returned (.bool r) ∧ Q r w') := by
 have HC := hI hc
 clear hc
 have hcf : ∀ W : World, (callFunc 135 #[c0, c1, c2]).run Tryz.prog W = .ok (.enter 135 #[c0, c1, c2]) W := fun W => by go_simp
 have hbx := hI (below_alT w (.cells #[p, q] 112))
 go_enter Tryz.func134, Tryz.ntmps134
 go_wp2_with fail
 refine (HC.out _ hbx.out).mono ?_
 rintro e w1 ⟨r, rfl, hb⟩
 have HB := hI hb
 clear hb hbx
 go_wp2
 go_ret
 exact ⟨r, rfl, HB.out⟩
attribute [local go_sem] Oper.semAt_some
structure VBx (W : World) (B0 l b k Bt Bm By : Nat) : Prop where
 t : W.heap[Bt]? = some (.cells #[.pointer (some ⟨b, k, none⟩)] 91 (0, 0))
 m : W.heap[Bm]? = some (.cells #[.pointer none] 120 (0, 0))
 y : W.heap[By]? = some (.cells #[.func (.yield l) #[] #[]] 115 (0, 0))
 ht : B0 ≤ Bt
 hm : B0 ≤ Bm
 hy : B0 ≤ By
theorem VBx.keep {W W' : World} {B0 l b k Bt Bm By : Nat} {M : Nat → Prop} (h : VBx W B0 l b k Bt Bm By) (hM : ∀ b, M b → b < B0) (hk : KeepC B0 M W W') : VBx W' B0 l b k Bt Bm By :=
 ⟨hk.row h.t (fun e => by have := hM _ e; have := h.ht; omega) rfl, hk.row h.m (fun e => by have := hM _ e; have := h.hm; omega) rfl, hk.row h.y (fun e => by have := hM _ e; have := h.hy; omega) rfl, h.ht, h.hm, h.hy⟩
theorem cell1 {W : World} {g : Nat} {v : Value} {t : TypeId} {fr : Nat × Nat} (h : W.heap[g]? = some (.cells #[v] t fr)) : W.cell? ⟨g, 0, none⟩ = some v := by rw [cell_of_row _ _ _ _ _ _ h]; rfl
theorem lt_row {W : World} {g : Nat} {o : Obj} (h : W.heap[g]? = some o) : g < W.heap.size := (Array.getElem?_eq_some_iff.1 h).1
theorem visitStep {w0 : World} {S M : Nat → Prop} {B0 l N : Nat} {J Jx : List (Spot w0 S) → World → Prop} (C : ItC w0 S M B0 l N J Jx) (t : Tm) (b k : Nat) (cs : List Value) (hP0 : TmP w0 S t b k cs) (hsh : NmOk t) (hn : t.nodes ≤ 3000)
 (pre : List (Spot w0 S)) (W : World) (hk : KeepC B0 M w0 W) (hJ : J pre W) (hN : pre.length + (subsT t).length ≤ N)
 (hv1 : t.kd = 3 → ∀ W1 (pre' : List (Spot w0 S)) (Bt Bm By : Nat), KeepC B0 M w0 W1 → VBx W1 B0 l b k Bt Bm By → J pre' W1 → pre'.length + (subsTs t.args).length ≤ N → Calls Tryz.prog 135 #[.pointer (some ⟨Bt, 0, none⟩), .pointer (some ⟨Bm, 0, none⟩), .pointer (some ⟨By, 0, none⟩)] W1 (RetV B0 M J Jx pre' (subsTs t.args) W1)) :
 Calls Tryz.prog 102 #[.pointer none, .pointer (some ⟨b, k, none⟩), .func (.yield l) #[] #[]] W (RetV B0 M J Jx pre (subsT t) W) := by
 have hW := hk.size
 have hB := C.hB
 have hA : Below W.heap.size W (((W.alloc (.cells #[.pointer none] 120)).alloc (.cells #[.pointer (some ⟨b, k, none⟩)] 91)).alloc (.cells #[.func (.yield l) #[] #[]] 115)) := Below.alloc (Below.alloc (Below.alloc (Below.refl _ _) (Nat.le_refl _) _) (by simp) _) (by simp <;> omega) _
 have hJ3 := C.jb _ _ _ hJ hA
 have hlen : pre.length < N := by
  have : 1 ≤ (subsT t).length := by rw [subsT_eq]; simp
  omega
 have hyy : YieldAt Fence.wide 2 Tryz.prog l #[.pointer (some ⟨b, k, none⟩)] (((W.alloc (.cells #[.pointer none] 120)).alloc (.cells #[.pointer (some ⟨b, k, none⟩)] 91)).alloc (.cells #[.func (.yield l) #[] #[]] 115)) (fun e W' => (e = .returned (.bool true) ∧ J (pre ++ [⟨(b, k, t), cs, hP0, hsh⟩]) W' ∧ KeepC B0 M (((W.alloc (.cells #[.pointer none] 120)).alloc (.cells #[.pointer (some ⟨b, k, none⟩)] 91)).alloc (.cells #[.func (.yield l) #[] #[]] 115)) W') ∨ (e = .returned (.bool false) ∧ Jx (pre ++ [⟨(b, k, t), cs, hP0, hsh⟩]) W')) := C.hY 2 pre ⟨(b, k, t), cs, hP0, hsh⟩ _ hJ3 hlen
 obtain ⟨x, hx⟩ : ∃ x : Spot w0 S, x = ⟨(b, k, t), cs, hP0, hsh⟩ := ⟨_, rfl⟩
 have hxt : x.tm = t := by rw [hx]; rfl
 rw [← hx] at hyy
 obtain ⟨fn, tmps, assign, body, hy, hR⟩ := hyy
 obtain ⟨Bm, hBm⟩ : ∃ Bm, Bm = W.heap.size := ⟨_, rfl⟩
 obtain ⟨Bt, hBt⟩ : ∃ Bt, Bt = W.heap.size + 1 := ⟨_, rfl⟩
 obtain ⟨By, hBy⟩ : ∃ By, By = W.heap.size + 1 + 1 := ⟨_, rfl⟩
 have v0 : VBx (((W.alloc (.cells #[.pointer none] 120)).alloc (.cells #[.pointer (some ⟨b, k, none⟩)] 91)).alloc (.cells #[.func (.yield l) #[] #[]] 115)) B0 l b k Bt Bm By := by
  rw [hBt, hBm, hBy]
  exact ⟨(Below.heap_alloc _ _ _ (by simp)).trans (heap_alloc2_new W _ _), (Below.heap_alloc _ _ _ (by simp <;> omega)).trans (heap_alloc2_old W _ _), heap_new_at (by simp), by omega, by omega, by omega⟩
 have HV := hI v0
 have HA := hI hA
 have HK := hI hk
 have HC := hI C
 have HXT := hI hxt
 have HP0 := hI hP0
 have hKW : KeepC B0 M W (((W.alloc (.cells #[.pointer none] 120)).alloc (.cells #[.pointer (some ⟨b, k, none⟩)] 91)).alloc (.cells #[.func (.yield l) #[] #[]] 115)) := KeepC.of_below hA
 have HKW := hI hKW
 have hS1 := subsT_eq t
 have hN1 : (pre ++ [x]).length + (subsTs t.args).length ≤ N := by
  rw [hS1] at hN; simp at hN ⊢; omega
 have HV1 := hI hv1
 have HS1 := hI hS1
 have HN1 := hI hN1
 clear hv1 hP0 hx hJ hJ3 hlen hN hS1 hN1 hk hxt v0 hKW C hW hB
 refine (callsIn_wide (n := 3)).1 ?_
 refine callsIn_of_wp Tryz.func102 rfl trivial ?_
 simp only [Tryz.ntmps102, List.size_toArray, List.length_cons, List.length_nil, Nat.reduceAdd, Nat.reduceSub, Array.replicate_succ, Array.replicate_zero, List.push_toArray, List.append_toArray, List.nil_append, List.cons_append]
 gi_wp2_with fail
 rw [← hBy, ← hBt, ← hBm] at *
 try refine ⟨fun h => by cases h, ?_⟩
 refine hR.mono ?_
 clear hR hy
 rintro e W4 (⟨rfl, hJ4, hk4⟩ | ⟨rfl, hx4⟩)
 · have HV4 := hI (HV.out.keep HC.out.hM hk4)
   have HK4 := hI (HKW.out.trans hk4)
   have HJ4 := hI hJ4
   have hk04 := HK.out.trans HK4.out
   have hP4 := HC.out.tmP hk04 HP0.out
   have hlb4 : b < W4.heap.size := Nat.lt_of_lt_of_le (Nat.lt_of_lt_of_le (HC.out.hS b HP0.out.1.1).1 HC.out.hB) hk04.size
   have HT := hI HV4.out.t
   have HM := hI HV4.out.m
   have HY := hI HV4.out.y
   have HK04 := hI hk04
   have HLB := hI hlb4
   obtain ⟨x0, x1, x2, x3, x4, x5, x6, A, c, _, _, ha, l0, l1, l2, l3, l4, l5, l6, l7, l8, l9, l10⟩ := hP4.cells
   have L0 := hI l0
   have L10 := hI l10
   have HAA := hI ha
   clear l0 l1 l2 l3 l4 l5 l6 l7 l8 l9 l10 hk4 hJ4 hP4 hk04 hlb4 ha HV
   gi_wp2_with fail
   refine wpIn_wide.2 ?_
   generalize (((W.alloc (.cells #[.pointer none] 120)).alloc (.cells #[.pointer (some ⟨b, k, none⟩)] 91)).alloc (.cells #[.func (.yield l) #[] #[]] 115)) = Y at *
   by_cases hk3 : t.kd = 3
   · have V1C := HV1.out hk3
     have PC : ∀ X, Below W4.heap.size W4 X → Calls Tryz.prog 104 #[.slice A t.args.length c] X (fun e w' => e = .returned (.agg (plV A t.args.length)) ∧ Below X.heap.size X w') := fun X hb => placeT t.args A c X S (HAA.out.keep (fun _ h => h) fun q hq => (KeepC.of_below hb : KeepC B0 M W4 X).old (Nat.le_trans HC.out.hB HK04.out.size) (HC.out.hS q hq).1 (HC.out.hS q hq).2)
     obtain ⟨p0, p1, ep, ho0, ho1⟩ : ∃ p0 p1, plV A t.args.length = #[p0, p1] ∧ p0.oneCell' = true ∧ p1.oneCell' = true := by unfold plV; split <;> exact ⟨_, _, rfl, rfl, rfl⟩
     rw [ep] at PC
     replace PC := hI PC
     have RCC : Hid (∀ X, Below W4.heap.size W4 X → Calls Tryz.prog 134 #[.pointer none, .agg #[p0, p1], .func (.func 135) #[] #[.pointer (some ⟨Bt, 0, none⟩), .pointer (some ⟨Bm, 0, none⟩), .pointer (some ⟨By, 0, none⟩)]] X (fun e w' => ∃ r, e = .returned (.bool r) ∧ VisQ B0 M J Jx (pre ++ [x]) (subsTs t.args) W4 r w')) := fun X hX =>
      recallQ p0 p1 _ _ _ _ X ho0 ho1 fun X2 hX2 => by
       have hb2 := chain2 hX hX2 (Nat.le_refl _)
       have hk2 : KeepC B0 M W4 X2 := KeepC.of_below hb2
       refine (V1C X2 (pre ++ [x]) Bt Bm By (HK04.out.trans hk2) (HV4.out.keep HC.out.hM hk2) (HC.out.jb _ _ _ HJ4.out hb2) HN1.out).mono ?_
       rintro e w' ⟨r, rfl, (⟨rfl, xs, h1, h2, h3⟩ | ⟨rfl, xs, h1, h2⟩)⟩
       · exact ⟨true, rfl, .inl ⟨rfl, xs, h1, h2, hk2.trans h3⟩⟩
       · exact ⟨false, rfl, .inr ⟨rfl, xs, h1, h2⟩⟩
     rw [hk3] at L0
     have HK3 := hI hk3
     generalize t.args.length = L at *
     clear ep ho0 ho1 HV1 V1C hk3
     refine wp_region_grow (l := _) 13 (by kernel_rfl) (by kernel_rfl) (fun i => [11, 12, 13, 14, 15, 16, 17, 18, 19, 20, 21, 22, 23].getD i 0) (LR [LV (.pointer (some ⟨b, k, none⟩)), LV (.pointer (some ⟨b, k, none⟩)), LV (.pointer (some ⟨b, k, none⟩)), LV (.int .i64 3), LV (.bool false), LV (.bool false), LV (.pointer none), LV (.pointer (some ⟨b, k, none⟩)), LV (.pointer (some ⟨b, k, none⟩)), LV (.pointer (some ⟨b, k + 10, none⟩)), LV (.slice A L c), LV (.agg #[p0, p1]), LV (.func (.func 135) #[] #[.pointer (some ⟨Bt, 0, none⟩), .pointer (some ⟨Bm, 0, none⟩), .pointer (some ⟨By, 0, none⟩)])]) (LR_mono ⟨mLV _, mLV _, mLV _, mLV _, mLV _, mLV _, mLV _, mLV _, mLV _, mLV _, mLV _, mLV _, mLV _, trivial⟩) (by
      intro i j hi hj h
      exact inj_getD [11, 12, 13, 14, 15, 16, 17, 18, 19, 20, 21, 22, 23] (by decide) i j hi hj h) (by
      intro i hi
      exact lt_getD 26 [11, 12, 13, 14, 15, 16, 17, 18, 19, 20, 21, 22, 23] (by decide) i hi) ?step ?done
     case step =>
      intro ii hii a w9 v lo hi' hoth hb hw
      have sl3 : a.tmps[3]? = some (.pointer (some ⟨Bm, 0, none⟩)) := (hoth 3 (fun j hj => ne_getD 3 _ (by decide) j hj)).trans rfl
      have sl4 : a.tmps[4]? = some (.pointer (some ⟨Bt, 0, none⟩)) := (hoth 4 (fun j hj => ne_getD 4 _ (by decide) j hj)).trans rfl
      have sl5 : a.tmps[5]? = some (.pointer (some ⟨By, 0, none⟩)) := (hoth 5 (fun j hj => ne_getD 5 _ (by decide) j hj)).trans rfl
      match ii, hii with
      | 0, _ =>
       have cc := cell1 ((hb.block Bt (lt_row HT.out)).trans HT.out)
       refine wpOp_step rfl fun K' hK' => ?_
       rw [if_pos (wanted_plain rfl)]
       unfold Oper.wp
       simp only [execOp]
       go_simp
       exact hK' _ _ ⟨_, rfl, Below.refl _ _, rfl⟩
      | 1, _ =>
       obtain ⟨s0, r0, _⟩ := hw 0 (by omega) (by kernel_rfl)
       have e0 : v 0 = .pointer (some ⟨b, k, none⟩) := r0
       rw [e0] at s0
       replace s0 : a.tmps[11]? = some (.pointer (some ⟨b, k, none⟩)) := s0
       refine wpOp_step rfl fun K' hK' => ?_
       rw [if_pos (wanted_plain rfl)]
       unfold Oper.wp
       simp only [execOp]
       go_simp
       exact hK' _ _ ⟨_, rfl, Below.refl _ _, rfl⟩
      | 2, _ =>
       obtain ⟨s0, r0, _⟩ := hw 1 (by omega) (by kernel_rfl)
       have e0 : v 1 = .pointer (some ⟨b, k, none⟩) := r0
       rw [e0] at s0
       replace s0 : a.tmps[12]? = some (.pointer (some ⟨b, k, none⟩)) := s0
       refine wpOp_step rfl fun K' hK' => ?_
       rw [if_pos (wanted_plain rfl)]
       unfold Oper.wp
       simp only [execOp]
       go_simp
       exact hK' _ _ ⟨_, rfl, Below.refl _ _, rfl⟩
      | 3, _ =>
       obtain ⟨s0, r0, _⟩ := hw 2 (by omega) (by kernel_rfl)
       have e0 : v 2 = .pointer (some ⟨b, k, none⟩) := r0
       rw [e0] at s0
       replace s0 : a.tmps[13]? = some (.pointer (some ⟨b, k, none⟩)) := s0
       have cc := (hb.cell (p := ⟨b, k, none⟩) HLB.out).trans L0.out
       refine wpOp_step rfl fun K' hK' => ?_
       rw [if_pos (wanted_plain rfl)]
       unfold Oper.wp
       simp only [execOp]
       go_simp
       exact hK' _ _ ⟨_, rfl, Below.refl _ _, rfl⟩
      | 4, _ =>
       obtain ⟨s0, r0, _⟩ := hw 3 (by omega) (by kernel_rfl)
       have e0 : v 3 = .int .i64 3 := r0
       rw [e0] at s0
       replace s0 : a.tmps[14]? = some (.int .i64 3) := s0
       refine wpOp_step rfl fun K' hK' => ?_
       rw [if_pos (wanted_plain rfl)]
       unfold Oper.wp
       simp only [execOp]
       go_simp
       exact hK' _ _ ⟨_, rfl, Below.refl _ _, rfl⟩
      | 5, _ =>
       obtain ⟨s0, r0, _⟩ := hw 4 (by omega) (by kernel_rfl)
       have e0 : v 4 = .bool false := r0
       rw [e0] at s0
       replace s0 : a.tmps[15]? = some (.bool false) := s0
       refine wpOp_step rfl fun K' hK' => ?_
       rw [if_pos (wanted_plain rfl)]
       unfold Oper.wp
       simp only [execOp]
       go_simp
       exact hK' _ _ ⟨_, rfl, Below.refl _ _, rfl⟩
      | 6, _ =>
       obtain ⟨s9, r9, _⟩ := hw 5 (by omega) (by kernel_rfl)
       have e9 : v 5 = .bool false := r9
       rw [e9] at s9
       replace s9 : a.tmps[16]? = some (.bool false) := s9
       have cc := cell1 ((hb.block Bm (lt_row HM.out)).trans HM.out)
       refine wpOp_step rfl fun K' hK' => ?_
       rw [if_pos (wanted_on rfl rfl rfl s9 rfl)]
       unfold Oper.wp
       simp only [execOp]
       go_simp
       exact hK' _ _ ⟨_, rfl, Below.refl _ _, rfl⟩
      | 7, _ =>
       obtain ⟨s9, r9, _⟩ := hw 5 (by omega) (by kernel_rfl)
       have e9 : v 5 = .bool false := r9
       rw [e9] at s9
       replace s9 : a.tmps[16]? = some (.bool false) := s9
       have cc := cell1 ((hb.block Bt (lt_row HT.out)).trans HT.out)
       refine wpOp_step rfl fun K' hK' => ?_
       rw [if_pos (wanted_on rfl rfl rfl s9 rfl)]
       unfold Oper.wp
       simp only [execOp]
       go_simp
       exact hK' _ _ ⟨_, rfl, Below.refl _ _, rfl⟩
      | 8, _ =>
       obtain ⟨s0, r0, _⟩ := hw 7 (by omega) (by kernel_rfl)
       have e0 : v 7 = .pointer (some ⟨b, k, none⟩) := r0
       rw [e0] at s0
       replace s0 : a.tmps[18]? = some (.pointer (some ⟨b, k, none⟩)) := s0
       obtain ⟨s9, r9, _⟩ := hw 5 (by omega) (by kernel_rfl)
       have e9 : v 5 = .bool false := r9
       rw [e9] at s9
       replace s9 : a.tmps[16]? = some (.bool false) := s9
       refine wpOp_step rfl fun K' hK' => ?_
       rw [if_pos (wanted_on rfl rfl rfl s9 rfl)]
       unfold Oper.wp
       simp only [execOp]
       go_simp
       exact hK' _ _ ⟨_, rfl, Below.refl _ _, rfl⟩
      | 9, _ =>
       obtain ⟨s0, r0, _⟩ := hw 8 (by omega) (by kernel_rfl)
       have e0 : v 8 = .pointer (some ⟨b, k, none⟩) := r0
       rw [e0] at s0
       replace s0 : a.tmps[19]? = some (.pointer (some ⟨b, k, none⟩)) := s0
       obtain ⟨s9, r9, _⟩ := hw 5 (by omega) (by kernel_rfl)
       have e9 : v 5 = .bool false := r9
       rw [e9] at s9
       replace s9 : a.tmps[16]? = some (.bool false) := s9
       refine wpOp_step rfl fun K' hK' => ?_
       rw [if_pos (wanted_on rfl rfl rfl s9 rfl)]
       unfold Oper.wp
       simp only [execOp]
       go_simp
       exact hK' _ _ ⟨_, rfl, Below.refl _ _, rfl⟩
      | 10, _ =>
       obtain ⟨s0, r0, _⟩ := hw 9 (by omega) (by kernel_rfl)
       have e0 : v 9 = .pointer (some ⟨b, k + 10, none⟩) := r0
       rw [e0] at s0
       replace s0 : a.tmps[20]? = some (.pointer (some ⟨b, k + 10, none⟩)) := s0
       obtain ⟨s9, r9, _⟩ := hw 5 (by omega) (by kernel_rfl)
       have e9 : v 5 = .bool false := r9
       rw [e9] at s9
       replace s9 : a.tmps[16]? = some (.bool false) := s9
       have cc := (hb.cell (p := ⟨b, k + 10, none⟩) HLB.out).trans L10.out
       refine wpOp_step rfl fun K' hK' => ?_
       rw [if_pos (wanted_on rfl rfl rfl s9 rfl)]
       unfold Oper.wp
       simp only [execOp]
       go_simp
       exact hK' _ _ ⟨_, rfl, Below.refl _ _, rfl⟩
      | 11, _ =>
       obtain ⟨s0, r0, _⟩ := hw 10 (by omega) (by kernel_rfl)
       have e0 : v 10 = .slice A L c := r0
       rw [e0] at s0
       replace s0 : a.tmps[21]? = some (.slice A L c) := s0
       obtain ⟨s9, r9, _⟩ := hw 5 (by omega) (by kernel_rfl)
       have e9 : v 5 = .bool false := r9
       rw [e9] at s9
       replace s9 : a.tmps[16]? = some (.bool false) := s9
       refine gw_t rfl (wanted_on rfl rfl rfl s9 rfl) 104 21 _ _ rfl (fun v w => by go_simp) s0 ?_
       with_reducible refine (PC.out w9 hb).mono ?_
       rintro e w3 ⟨rfl, hb3⟩
       exact ⟨_, rfl, _, rfl, hb3, rfl⟩
      | 12, _ =>
       obtain ⟨s9, r9, _⟩ := hw 5 (by omega) (by kernel_rfl)
       have e9 : v 5 = .bool false := r9
       rw [e9] at s9
       replace s9 : a.tmps[16]? = some (.bool false) := s9
       refine wpOp_step rfl fun K' hK' => ?_
       rw [if_pos (wanted_on rfl rfl rfl s9 rfl)]
       unfold Oper.wp
       simp only [execOp]
       simp only [Instr.makeFunc]
       go_simp
       exact hK' _ _ ⟨_, rfl, Below.refl _ _, rfl⟩
      | k + 13, h => exact absurd h (by omega)
     case done =>
      intro a w9 v lo hi' hdef hsz hoth hb hj hap
      obtain ⟨_, hv5, _, _⟩ := hj 5 (by omega)
      obtain ⟨_, hv6, _, _⟩ := hj 6 (by omega)
      obtain ⟨_, hv11, _, _⟩ := hj 11 (by omega)
      obtain ⟨_, hv12, _, _⟩ := hj 12 (by omega)
      have ha := eq_puts hdef hsz hoth (fun i hi => (hj i hi).1)
      subst ha
      clear hj hoth hdef hsz hap
      change v 5 = _ at hv5
      change v 6 = _ at hv6
      change v 11 = _ at hv11
      change v 12 = _ at hv12
      simp only [puts, List.getD_cons_zero, List.getD_cons_succ, hv5, hv6, hv11, hv12]
      generalize v 0 = v0
      generalize v 1 = v1
      generalize v 2 = v2
      generalize v 3 = v3
      generalize v 4 = v4
      generalize v 7 = v7
      generalize v 8 = v8
      generalize v 9 = v9
      generalize v 10 = v10
      clear hv5 hv6 hv11 hv12
      simp only [Act.put, List.setIfInBounds_toArray, List.set_cons_zero, List.set_cons_succ]
      show wpList _ _ _ [_, _, _] _ _
      have RC2 := hI (RCC.out w9 hb)
      clear hb PC RCC
      go_wp2_with fail
      refine RC2.out.mono ?_
      rintro e w5 ⟨r, rfl, hQ⟩
      have HQ := hI hQ
      clear hQ RC2
      go_wp2_with fail
      gi_wp2_with fail
      go_ret
      refine ⟨r, rfl, ?_⟩
      rcases HQ.out with ⟨rfl, xs, h1, h2, h3⟩ | ⟨rfl, xs, h1, h2⟩
      · exact .inl ⟨rfl, x :: xs, by rw [HS1.out, List.map_cons, HXT.out, h1], by rw [List.append_cons]; exact h2, HK4.out.trans h3⟩
      · exact .inr ⟨rfl, x :: xs, by rw [HS1.out, List.map_cons, HXT.out]; exact (List.prefix_cons_inj t).2 h1, by rw [List.append_cons]; exact h2⟩
   · have ha0 : t.args = [] := by
      cases t with
      | var s => rfl
      | con o => rfl
      | app s l => exact absurd rfl hk3
     have HS2 : Hid (subsT t = [t]) := (show _ = _ by rw [HS1.out, ha0]; unfold subsTs; rfl)
     have hkn : (t.kd != 3) = true := by rw [bne_iff_ne]; exact hk3
     clear HV1 HAA HN1 HS1 ha0
     generalize t.kd = kd at *
     refine wp_region_grow (l := _) 13 (by kernel_rfl) (by kernel_rfl) (fun i => [11, 12, 13, 14, 15, 16, 17, 18, 19, 20, 21, 22, 23].getD i 0) (LR [LV (.pointer (some ⟨b, k, none⟩)), LV (.pointer (some ⟨b, k, none⟩)), LV (.pointer (some ⟨b, k, none⟩)), LV (.int .i64 kd), LV (.bool true), LV (.bool true), LV undef, LV undef, LV undef, LV undef, LV undef, LV undef, LV undef]) (LR_mono ⟨mLV _, mLV _, mLV _, mLV _, mLV _, mLV _, mLV _, mLV _, mLV _, mLV _, mLV _, mLV _, mLV _, trivial⟩) (by
      intro i j hi hj h
      exact inj_getD [11, 12, 13, 14, 15, 16, 17, 18, 19, 20, 21, 22, 23] (by decide) i j hi hj h) (by
      intro i hi
      exact lt_getD 26 [11, 12, 13, 14, 15, 16, 17, 18, 19, 20, 21, 22, 23] (by decide) i hi) ?step ?done
     case step =>
      intro ii hii a w9 v lo hi' hoth hb hw
      have sl3 : a.tmps[3]? = some (.pointer (some ⟨Bm, 0, none⟩)) := (hoth 3 (fun j hj => ne_getD 3 _ (by decide) j hj)).trans rfl
      have sl4 : a.tmps[4]? = some (.pointer (some ⟨Bt, 0, none⟩)) := (hoth 4 (fun j hj => ne_getD 4 _ (by decide) j hj)).trans rfl
      have sl5 : a.tmps[5]? = some (.pointer (some ⟨By, 0, none⟩)) := (hoth 5 (fun j hj => ne_getD 5 _ (by decide) j hj)).trans rfl
      match ii, hii with
      | 0, _ =>
       have cc := cell1 ((hb.block Bt (lt_row HT.out)).trans HT.out)
       refine wpOp_step rfl fun K' hK' => ?_
       rw [if_pos (wanted_plain rfl)]
       unfold Oper.wp
       simp only [execOp]
       go_simp
       exact hK' _ _ ⟨_, rfl, Below.refl _ _, rfl⟩
      | 1, _ =>
       obtain ⟨s0, r0, _⟩ := hw 0 (by omega) (by kernel_rfl)
       have e0 : v 0 = .pointer (some ⟨b, k, none⟩) := r0
       rw [e0] at s0
       replace s0 : a.tmps[11]? = some (.pointer (some ⟨b, k, none⟩)) := s0
       refine wpOp_step rfl fun K' hK' => ?_
       rw [if_pos (wanted_plain rfl)]
       unfold Oper.wp
       simp only [execOp]
       go_simp
       exact hK' _ _ ⟨_, rfl, Below.refl _ _, rfl⟩
      | 2, _ =>
       obtain ⟨s0, r0, _⟩ := hw 1 (by omega) (by kernel_rfl)
       have e0 : v 1 = .pointer (some ⟨b, k, none⟩) := r0
       rw [e0] at s0
       replace s0 : a.tmps[12]? = some (.pointer (some ⟨b, k, none⟩)) := s0
       refine wpOp_step rfl fun K' hK' => ?_
       rw [if_pos (wanted_plain rfl)]
       unfold Oper.wp
       simp only [execOp]
       go_simp
       exact hK' _ _ ⟨_, rfl, Below.refl _ _, rfl⟩
      | 3, _ =>
       obtain ⟨s0, r0, _⟩ := hw 2 (by omega) (by kernel_rfl)
       have e0 : v 2 = .pointer (some ⟨b, k, none⟩) := r0
       rw [e0] at s0
       replace s0 : a.tmps[13]? = some (.pointer (some ⟨b, k, none⟩)) := s0
       have cc := (hb.cell (p := ⟨b, k, none⟩) HLB.out).trans L0.out
       refine wpOp_step rfl fun K' hK' => ?_
       rw [if_pos (wanted_plain rfl)]
       unfold Oper.wp
       simp only [execOp]
       go_simp
       exact hK' _ _ ⟨_, rfl, Below.refl _ _, rfl⟩
      | 4, _ =>
       obtain ⟨s0, r0, _⟩ := hw 3 (by omega) (by kernel_rfl)
       have e0 : v 3 = .int .i64 kd := r0
       rw [e0] at s0
       replace s0 : a.tmps[14]? = some (.int .i64 kd) := s0
       refine wpOp_step rfl fun K' hK' => ?_
       rw [if_pos (wanted_plain rfl)]
       unfold Oper.wp
       simp only [execOp]
       go_simp
       exact hK' _ _ ⟨_, rfl, Below.refl _ _, rfl⟩
      | 5, _ =>
       obtain ⟨s0, r0, _⟩ := hw 4 (by omega) (by kernel_rfl)
       have e0 : v 4 = .bool true := r0
       rw [e0] at s0
       replace s0 : a.tmps[15]? = some (.bool true) := s0
       refine wpOp_step rfl fun K' hK' => ?_
       rw [if_pos (wanted_plain rfl)]
       unfold Oper.wp
       simp only [execOp]
       go_simp
       exact hK' _ _ ⟨_, rfl, Below.refl _ _, rfl⟩
      | 6, _ =>
       obtain ⟨s9, r9, _⟩ := hw 5 (by omega) (by kernel_rfl)
       have e9 : v 5 = .bool true := r9
       rw [e9] at s9
       replace s9 : a.tmps[16]? = some (.bool true) := s9
       exact gw_skip rfl (wanted_off rfl rfl rfl s9 rfl) ⟨_, rfl, Below.refl _ _, rfl⟩
      | 7, _ =>
       obtain ⟨s9, r9, _⟩ := hw 5 (by omega) (by kernel_rfl)
       have e9 : v 5 = .bool true := r9
       rw [e9] at s9
       replace s9 : a.tmps[16]? = some (.bool true) := s9
       exact gw_skip rfl (wanted_off rfl rfl rfl s9 rfl) ⟨_, rfl, Below.refl _ _, rfl⟩
      | 8, _ =>
       obtain ⟨s9, r9, _⟩ := hw 5 (by omega) (by kernel_rfl)
       have e9 : v 5 = .bool true := r9
       rw [e9] at s9
       replace s9 : a.tmps[16]? = some (.bool true) := s9
       exact gw_skip rfl (wanted_off rfl rfl rfl s9 rfl) ⟨_, rfl, Below.refl _ _, rfl⟩
      | 9, _ =>
       obtain ⟨s9, r9, _⟩ := hw 5 (by omega) (by kernel_rfl)
       have e9 : v 5 = .bool true := r9
       rw [e9] at s9
       replace s9 : a.tmps[16]? = some (.bool true) := s9
       exact gw_skip rfl (wanted_off rfl rfl rfl s9 rfl) ⟨_, rfl, Below.refl _ _, rfl⟩
      | 10, _ =>
       obtain ⟨s9, r9, _⟩ := hw 5 (by omega) (by kernel_rfl)
       have e9 : v 5 = .bool true := r9
       rw [e9] at s9
       replace s9 : a.tmps[16]? = some (.bool true) := s9
       exact gw_skip rfl (wanted_off rfl rfl rfl s9 rfl) ⟨_, rfl, Below.refl _ _, rfl⟩
      | 11, _ =>
       obtain ⟨s9, r9, _⟩ := hw 5 (by omega) (by kernel_rfl)
       have e9 : v 5 = .bool true := r9
       rw [e9] at s9
       replace s9 : a.tmps[16]? = some (.bool true) := s9
       exact gw_skip rfl (wanted_off rfl rfl rfl s9 rfl) ⟨_, rfl, Below.refl _ _, rfl⟩
      | 12, _ =>
       obtain ⟨s9, r9, _⟩ := hw 5 (by omega) (by kernel_rfl)
       have e9 : v 5 = .bool true := r9
       rw [e9] at s9
       replace s9 : a.tmps[16]? = some (.bool true) := s9
       exact gw_skip rfl (wanted_off rfl rfl rfl s9 rfl) ⟨_, rfl, Below.refl _ _, rfl⟩
      | k + 13, h => exact absurd h (by omega)
     case done =>
      intro a w9 v lo hi' hdef hsz hoth hb hj hap
      obtain ⟨_, hv5, _, _⟩ := hj 5 (by omega)
      have ha := eq_puts hdef hsz hoth (fun i hi => (hj i hi).1)
      subst ha
      clear hj hoth hdef hsz hap
      change v 5 = _ at hv5
      simp only [puts, List.getD_cons_zero, List.getD_cons_succ, hv5]
      generalize v 0 = v0
      generalize v 1 = v1
      generalize v 2 = v2
      generalize v 3 = v3
      generalize v 4 = v4
      generalize v 6 = v6
      generalize v 7 = v7
      generalize v 8 = v8
      generalize v 9 = v9
      generalize v 10 = v10
      generalize v 11 = v11
      generalize v 12 = v12
      clear hv5
      simp only [Act.put, List.setIfInBounds_toArray, List.set_cons_zero, List.set_cons_succ]
      show wpList _ _ _ [_, _, _] _ _
      have HB := hI hb
      clear hb
      go_wp2_with fail
      gi_wp2_with fail
      go_ret
      refine ⟨true, rfl, .inl ⟨rfl, [x], by rw [HS2.out, List.map_cons, HXT.out]; rfl, HC.out.jb _ _ _ HJ4.out HB.out, HK4.out.trans (KeepC.of_below HB.out)⟩⟩
 · gi_wp2_with fail
   go_ret
   exact ⟨false, rfl, .inr ⟨rfl, [x], by rw [HS1.out, List.map_cons, HXT.out]; exact ⟨subsTs t.args, rfl⟩, hx4⟩⟩
def V1W {w0 : World} {S : Nat → Prop} (B0 : Nat) (M : Nat → Prop) (J : List (Spot w0 S) → World → Prop) (pre : List (Spot w0 S)) (l : List Tm) (i : Nat) (W1 wr : World) : Prop := ∃ xs : List (Spot w0 S), xs.map Spot.tm ++ subsTs (l.drop i) = subsTs l ∧ J (pre ++ xs) wr ∧ KeepC B0 M W1 wr
theorem visit1 {w0 : World} {S M : Nat → Prop} {B0 l N : Nat} {J Jx : List (Spot w0 S) → World → Prop} (C : ItC w0 S M B0 l N J Jx) (t : Tm) (b k : Nat) (cs : List Value) (hP0 : TmP w0 S t b k cs) (hn : t.args.length ≤ 3000)
 (pre : List (Spot w0 S)) (W : World) (Bt Bm By : Nat) (hk : KeepC B0 M w0 W) (hv : VBx W B0 l b k Bt Bm By) (hJ : J pre W) (hN : pre.length + (subsTs t.args).length ≤ N)
 (ih : ∀ x ∈ t.args, ∀ (b k : Nat) (cs : List Value) (pre : List (Spot w0 S)) (W : World), TmP w0 S x b k cs → KeepC B0 M w0 W → J pre W → pre.length + (subsT x).length ≤ N → Calls Tryz.prog 102 #[.pointer none, .pointer (some ⟨b, k, none⟩), .func (.yield l) #[] #[]] W (RetV B0 M J Jx pre (subsT x) W)) :
 Calls Tryz.prog 135 #[.pointer (some ⟨Bt, 0, none⟩), .pointer (some ⟨Bm, 0, none⟩), .pointer (some ⟨By, 0, none⟩)] W (RetV B0 M J Jx pre (subsTs t.args) W) := by
 have hlb0 : b < B0 ∧ ¬ M b := C.hS b hP0.1.1
 obtain ⟨x0, x1, x2, x3, x4, x5, x6, A, c, _, _, ha, _, _, _, _, _, _, _, _, _, _, l10⟩ := hP0.cells
 have HL10 : Hid (∀ X, KeepC B0 M w0 X → X.cell? ⟨b, k + 10, none⟩ = some (.slice A t.args.length c)) := fun X hX => (World.cell?_of_block (a := ⟨b, k + 10, none⟩) (hX.old C.hB hlb0.1 hlb0.2)).trans l10
 have HLBB : Hid (∀ X, KeepC B0 M w0 X → b < X.heap.size) := fun X hX => Nat.lt_of_lt_of_le (Nat.lt_of_lt_of_le hlb0.1 C.hB) hX.size
 have HLC0 : Hid (t.args.length ≤ c) := ha.1
 have HAA := hI ha
 have HI : Hid (∀ i (hi : i < t.args.length), ∀ (b k : Nat) (cs : List Value) (pre : List (Spot w0 S)) (W : World), TmP w0 S t.args[i] b k cs → KeepC B0 M w0 W → J pre W → pre.length + (subsT t.args[i]).length ≤ N → Calls Tryz.prog 102 #[.pointer none, .pointer (some ⟨b, k, none⟩), .func (.yield l) #[] #[]] W (RetV B0 M J Jx pre (subsT t.args[i]) W)) := fun i hi => ih _ (List.getElem_mem hi)
 have HC := hI C
 have HK := hI hk
 have HV := hI hv
 have HN := hI hN
 have h0 : Hid (V1W B0 M J pre t.args 0 W W) := ⟨[], by rw [List.drop_zero]; rfl, by rw [List.append_nil]; exact hJ, KeepC.refl W⟩
 have HQ : Hid (∀ e w', RetV B0 M J Jx pre (subsTs t.args) W e w' → RetV B0 M J Jx pre (subsTs t.args) W e w') := fun _ _ h => h
 generalize t.args = ts at *
 obtain ⟨L, hL⟩ : ∃ L, ts.length = L := ⟨_, rfl⟩
 have cT := cell1 hv.t
 have c10 := HL10.out W hk
 have HL := hI hL
 rw [hL] at hn HLC0 c10 HL10
 have HLC := HLC0
 have hLc := HLC0.out
 clear ih C hP0 hk hv hJ hN ha l10 hL hlb0
 go_enter Tryz.func135, Tryz.ntmps135
 go_wp2_with fail
 go_loopw [10] (fun v wr => ∃ (i : Nat), i ≤ L ∧ v = .int .i64 (i : Int) ∧ Hid (V1W B0 M J pre ts i W wr)) (fun v _ => L - (intOf v).toNat)
 case atStart => exact ⟨0, Nat.zero_le _, rfl, h0⟩
 case round =>
  clear h0 cT c10
  obtain ⟨i, hiL, rfl, hE⟩ := hrel
  obtain ⟨wo, rfl⟩ : ∃ wo : World, wo = wr := ⟨_, rfl⟩
  obtain ⟨xs, hxs, hJx, hkx⟩ := hE.out
  have hk0 := HK.out.trans hkx
  by_cases hlt : i < L
  · have hil : i < ts.length := by rw [HL.out]; exact hlt
    obtain ⟨b1, o1, cs1, rfl, hP1⟩ := HAA.out.arg hil
    have HVo := hI (HV.out.keep HC.out.hM hkx)
    have HT := hI HVo.out.t
    have HM := hI HVo.out.m
    have HY := hI HVo.out.y
    have L10 := hI (HL10.out wo hk0)
    have HLB := hI (HLBB.out wo hk0)
    have hdr := subsTs_drop hil
    rw [hdr] at hxs
    have hNi : (pre ++ xs).length + (subsT ts[i]).length ≤ N := by
     have h1 := congrArg List.length hxs
     have h2 := HN.out
     simp only [List.length_append, List.length_map] at h1 ⊢
     omega
    have CALL : Hid (∀ X, Below wo.heap.size wo X → Calls Tryz.prog 102 #[.pointer none, .pointer (some ⟨b1, o1 + i * 11, none⟩), .func (.yield l) #[] #[]] X (RetV B0 M J Jx (pre ++ xs) (subsT ts[i]) X)) := fun X hX =>
     HI.out i hil b1 _ cs1 (pre ++ xs) X hP1 (hk0.trans (KeepC.of_below hX)) (HC.out.jb _ _ _ hJx hX) hNi
    have HXS := hI hxs
    have HKX := hI hkx
    obtain ⟨u, hu⟩ : ∃ u, subsT ts[i] = u := ⟨_, rfl⟩
    rw [hu] at HXS CALL
    clear hE hxs hJx hkx hk0 hP1 hdr hNi hu HV
    go_wp2_with fail
    refine wp_region_grow (l := _) 8 (by kernel_rfl) (by kernel_rfl) (fun i => [13, 14, 15, 16, 17, 18, 19, 20].getD i 0) (LR [LV (.pointer none), LV (.pointer (some ⟨b, k, none⟩)), LV (.pointer (some ⟨b, k, none⟩)), LV (.pointer (some ⟨b, k + 10, none⟩)), LV (.slice (some ⟨b1, o1, none⟩) L c), LV (.int .i64 (i : Int)), LV (.pointer (some ⟨b1, o1 + i * 11, none⟩)), LV (.func (.yield l) #[] #[])]) (LR_mono ⟨mLV _, mLV _, mLV _, mLV _, mLV _, mLV _, mLV _, mLV _, trivial⟩) (by
     intro i j hi hj h
     exact inj_getD [13, 14, 15, 16, 17, 18, 19, 20] (by decide) i j hi hj h) (by
     intro i hi
     exact lt_getD 24 [13, 14, 15, 16, 17, 18, 19, 20] (by decide) i hi) ?step ?done
    case step =>
     intro ii hii a w9 v lo hi' hoth hb hw
     have sl0 : a.tmps[0]? = some (.pointer (some ⟨Bt, 0, none⟩)) := (hoth 0 (fun j hj => ne_getD 0 _ (by decide) j hj)).trans rfl
     have sl1 : a.tmps[1]? = some (.pointer (some ⟨Bm, 0, none⟩)) := (hoth 1 (fun j hj => ne_getD 1 _ (by decide) j hj)).trans rfl
     have sl2 : a.tmps[2]? = some (.pointer (some ⟨By, 0, none⟩)) := (hoth 2 (fun j hj => ne_getD 2 _ (by decide) j hj)).trans rfl
     have sl4 : a.tmps[4]? = some (.int .i64 (i : Int)) := (hoth 4 (fun j hj => ne_getD 4 _ (by decide) j hj)).trans rfl
     match ii, hii with
     | 0, _ =>
      have cc := cell1 ((hb.block Bm (lt_row HM.out)).trans HM.out)
      refine wpOp_step rfl fun K' hK' => ?_
      rw [if_pos (wanted_plain rfl)]
      unfold Oper.wp
      simp only [execOp]
      go_simp
      exact hK' _ _ ⟨_, rfl, Below.refl _ _, rfl⟩
     | 1, _ =>
      have cc := cell1 ((hb.block Bt (lt_row HT.out)).trans HT.out)
      refine wpOp_step rfl fun K' hK' => ?_
      rw [if_pos (wanted_plain rfl)]
      unfold Oper.wp
      simp only [execOp]
      go_simp
      exact hK' _ _ ⟨_, rfl, Below.refl _ _, rfl⟩
     | 2, _ =>
      obtain ⟨s0, r0, _⟩ := hw 1 (by omega) (by kernel_rfl)
      have e0 : v 1 = .pointer (some ⟨b, k, none⟩) := r0
      rw [e0] at s0
      replace s0 : a.tmps[14]? = some (.pointer (some ⟨b, k, none⟩)) := s0
      refine wpOp_step rfl fun K' hK' => ?_
      rw [if_pos (wanted_plain rfl)]
      unfold Oper.wp
      simp only [execOp]
      go_simp
      exact hK' _ _ ⟨_, rfl, Below.refl _ _, rfl⟩
     | 3, _ =>
      obtain ⟨s0, r0, _⟩ := hw 2 (by omega) (by kernel_rfl)
      have e0 : v 2 = .pointer (some ⟨b, k, none⟩) := r0
      rw [e0] at s0
      replace s0 : a.tmps[15]? = some (.pointer (some ⟨b, k, none⟩)) := s0
      refine wpOp_step rfl fun K' hK' => ?_
      rw [if_pos (wanted_plain rfl)]
      unfold Oper.wp
      simp only [execOp]
      go_simp
      exact hK' _ _ ⟨_, rfl, Below.refl _ _, rfl⟩
     | 4, _ =>
      obtain ⟨s0, r0, _⟩ := hw 3 (by omega) (by kernel_rfl)
      have e0 : v 3 = .pointer (some ⟨b, k + 10, none⟩) := r0
      rw [e0] at s0
      replace s0 : a.tmps[16]? = some (.pointer (some ⟨b, k + 10, none⟩)) := s0
      have cc := (hb.cell (p := ⟨b, k + 10, none⟩) HLB.out).trans L10.out
      refine wpOp_step rfl fun K' hK' => ?_
      rw [if_pos (wanted_plain rfl)]
      unfold Oper.wp
      simp only [execOp]
      go_simp
      exact hK' _ _ ⟨_, rfl, Below.refl _ _, rfl⟩
     | 5, _ =>
      exact gw_move rfl (wanted_plain rfl) 4 _ rfl sl4 ⟨_, rfl, Below.refl _ _, rfl⟩
     | 6, _ =>
      obtain ⟨s0, r0, _⟩ := hw 4 (by omega) (by kernel_rfl)
      have e0 : v 4 = .slice (some ⟨b1, o1, none⟩) L c := r0
      rw [e0] at s0
      replace s0 : a.tmps[17]? = some (.slice (some ⟨b1, o1, none⟩) L c) := s0
      obtain ⟨s1, r1, _⟩ := hw 5 (by omega) (by kernel_rfl)
      have e1 : v 5 = .int .i64 (i : Int) := r1
      rw [e1] at s1
      replace s1 : a.tmps[18]? = some (.int .i64 (i : Int)) := s1
      have hcL := HLC.out
      refine wpOp_step rfl fun K' hK' => ?_
      rw [if_pos (wanted_plain rfl)]
      unfold Oper.wp
      simp only [execOp]
      go_simp
      exact hK' _ _ ⟨_, rfl, Below.refl _ _, rfl⟩
     | 7, _ =>
      have cc := cell1 ((hb.block By (lt_row HY.out)).trans HY.out)
      refine wpOp_step rfl fun K' hK' => ?_
      rw [if_pos (wanted_plain rfl)]
      unfold Oper.wp
      simp only [execOp]
      go_simp
      exact hK' _ _ ⟨_, rfl, Below.refl _ _, rfl⟩
    case done =>
     intro a w9 v lo hi' hdef hsz hoth hb hj hap
     obtain ⟨_, hv0, _, _⟩ := hj 0 (by omega)
     obtain ⟨_, hv6, _, _⟩ := hj 6 (by omega)
     obtain ⟨_, hv7, _, _⟩ := hj 7 (by omega)
     have ha := eq_puts hdef hsz hoth (fun i hi => (hj i hi).1)
     subst ha
     clear hj hoth hdef hsz hap
     change v 0 = _ at hv0
     change v 6 = _ at hv6
     change v 7 = _ at hv7
     simp only [puts, List.getD_cons_zero, List.getD_cons_succ, hv0, hv6, hv7]
     generalize v 1 = v1
     generalize v 2 = v2
     generalize v 3 = v3
     generalize v 4 = v4
     generalize v 5 = v5
     clear hv0 hv6 hv7
     simp only [Act.put, List.setIfInBounds_toArray, List.set_cons_zero, List.set_cons_succ]
     show wpList _ _ _ [_, _] _ _
     have CALL2 := hI (CALL.out w9 hb)
     have HKB : Hid (KeepC B0 M wo w9) := KeepC.of_below hb
     clear hb CALL
     go_wp2_with fail
     refine CALL2.out.mono ?_
     rintro e w5 ⟨r, rfl, (⟨rfl, ys, h1, h2, h3⟩ | ⟨rfl, ys, h1, h2⟩)⟩
     · have HE : Hid (V1W B0 M J pre ts (i + 1) W w5) := ⟨xs ++ ys, by rw [List.map_append, h1, List.append_assoc]; exact HXS.out, by rw [← List.append_assoc]; exact h2, (HKX.out.trans HKB.out).trans h3⟩
       clear h1 h2 h3 CALL2
       go_wp2_with fail
       go_roundw
       case rel => exact ⟨i + 1, by omega, by go_num, HE⟩
       case measure => simp [intOf]; omega
     · have HE : Hid (RetV B0 M J Jx pre (subsTs ts) W (.returned (.bool false)) w5) := ⟨false, rfl, .inr ⟨rfl, xs ++ ys, by rw [List.map_append, ← HXS.out]; exact (List.prefix_append_right_inj _).2 (h1.trans (List.prefix_append _ _)), by rw [← List.append_assoc]; exact h2⟩⟩
       clear h1 h2 CALL2
       go_wp2_with fail
       go_ret
       exact HE.out
  · have hiL2 : i = L := by omega
    have hn : ¬ (i : Int) < L := by omega
    have HE : Hid (RetV B0 M J Jx pre (subsTs ts) W (.returned (.bool true)) wo) := ⟨true, rfl, .inl ⟨rfl, xs, by
     rw [hiL2, ← HL.out, List.drop_length] at hxs
     unfold subsTs at hxs
     rw [List.append_nil] at hxs
     rw [hxs]
     cases ts <;> rfl, hJx, hkx⟩⟩
    clear hE hiL2 hlt hxs hJx hkx hk0
    go_wp2
    go_ret
    exact HE.out
theorem visitT {w0 : World} {S M : Nat → Prop} {B0 l N : Nat} {J Jx : List (Spot w0 S) → World → Prop} (C : ItC w0 S M B0 l N J Jx) : ∀ (t : Tm) (b k : Nat) (cs : List Value) (pre : List (Spot w0 S)) (W : World), TmP w0 S t b k cs → (∀ u ∈ subsT t, NmOk u) → t.nodes ≤ 3000 → KeepC B0 M w0 W → J pre W → pre.length + (subsT t).length ≤ N →
 Calls Tryz.prog 102 #[.pointer none, .pointer (some ⟨b, k, none⟩), .func (.yield l) #[] #[]] W (RetV B0 M J Jx pre (subsT t) W) := by
 intro t
 induction t using Tm.indA with
 | h t ih =>
  intro b k cs pre W hP hsh hn hk hJ hN
  have h1 := t.nodes_args
  have h2 := Tm.nodesL_len t.args
  exact visitStep C t b k cs hP (hsh t (subsT_self t)) hn pre W hk hJ hN fun _ W1 pre' Bt Bm By hk1 hv1 hJ1 hN1 => visit1 C t b k cs hP (by omega) pre' W1 Bt Bm By hk1 hv1 hJ1 hN1 fun x hx b k cs pre W hP hk hJ hN => ih x hx b k cs pre W hP (fun u hu => hsh u (subsT_arg hx hu)) (by have := Tm.nodes_mem hx; omega) hk hJ hN
def RetSeq {w0 : World} {S : Nat → Prop} (J Jx : List (Spot w0 S) → World → Prop) (L : List Tm) (e : Ending) (W' : World) : Prop := (∃ v, e = .returned v) ∧ ((∃ xs : List (Spot w0 S), xs.map Spot.tm = L ∧ J xs W') ∨ (∃ pre : List (Spot w0 S), pre.map Spot.tm <+: L ∧ Jx pre W'))
theorem subterms1 {w0 : World} {S M : Nat → Prop} {B0 l N : Nat} {J Jx : List (Spot w0 S) → World → Prop} (C : ItC w0 S M B0 l N J Jx) (ts : List Tm) (A : Option Addr) (c Bl : Nat) (hbl : w0.heap[Bl]? = some (.cells #[.slice A ts.length c] 30 (0, 0))) (hB0 : Bl < B0 ∧ ¬ M Bl)
 (ha : ArgsAt w0 S ts A c) (hsh : ∀ u ∈ subsTs ts, NmOk u) (hn : ∀ x ∈ ts, x.nodes ≤ 3000) (hl : ts.length ≤ 3000) (W : World) (hk : KeepC B0 M w0 W) (hJ : J [] W) (hN : (subsTs ts).length ≤ N) :
 Calls Tryz.prog 100 #[.func (.yield l) #[] #[], .pointer (some ⟨Bl, 0, none⟩)] W (RetSeq J Jx (subsTs ts)) := by
 have HBL : Hid (∀ X, KeepC B0 M w0 X → X.heap[Bl]? = some (.cells #[.slice A ts.length c] 30 (0, 0))) := fun X hX => (hX.old C.hB hB0.1 hB0.2).trans hbl
 have HLC0 : Hid (ts.length ≤ c) := ha.1
 have HAA := hI ha
 have HI : Hid (∀ i (hi : i < ts.length), ∀ (b k : Nat) (cs : List Value) (pre : List (Spot w0 S)) (W : World), TmP w0 S ts[i] b k cs → KeepC B0 M w0 W → J pre W → pre.length + (subsT ts[i]).length ≤ N → Calls Tryz.prog 102 #[.pointer none, .pointer (some ⟨b, k, none⟩), .func (.yield l) #[] #[]] W (RetV B0 M J Jx pre (subsT ts[i]) W)) := fun i hi b k cs pre W h1 h2 h3 h4 => visitT C ts[i] b k cs pre W h1 (fun u hu => hsh u (subsTs_mem (List.getElem_mem hi) hu)) (hn _ (List.getElem_mem hi)) h2 h3 h4
 have HNN : Hid (∀ i (hi : i < ts.length), ts[i].nodes ≤ 3000) := fun i hi => hn _ (List.getElem_mem hi)
 have HC := hI C
 have HK := hI hk
 have HN := hI hN
 have h0 : Hid (V1W B0 M J [] ts 0 W W) := ⟨[], by rw [List.drop_zero]; rfl, hJ, KeepC.refl W⟩
 have cT := cell1 (HBL.out W hk)
 obtain ⟨L, hL⟩ : ∃ L, ts.length = L := ⟨_, rfl⟩
 have HL := hI hL
 rw [hL] at hl HLC0 cT HBL
 have hLc := HLC0.out
 clear C hk hJ hN ha hL hbl hB0 hn hsh
 go_enter Tryz.func100, Tryz.ntmps100
 go_wp2_with fail
 go_loopw [7] (fun v wr => ∃ (i : Nat), i ≤ L ∧ v = .int .i64 (i : Int) ∧ Hid (V1W B0 M J [] ts i W wr)) (fun v _ => L - (intOf v).toNat)
 case atStart => exact ⟨0, Nat.zero_le _, rfl, h0⟩
 case round =>
  clear h0 cT
  obtain ⟨i, hiL, rfl, hE⟩ := hrel
  obtain ⟨wo, rfl⟩ : ∃ wo : World, wo = wr := ⟨_, rfl⟩
  obtain ⟨xs, hxs, hJx, hkx⟩ := hE.out
  have hk0 := HK.out.trans hkx
  by_cases hlt : i < L
  · have hil : i < ts.length := by rw [HL.out]; exact hlt
    obtain ⟨b1, o1, cs1, rfl, hP1⟩ := HAA.out.arg hil
    have c1 := cell1 (HBL.out wo hk0)
    have hPo := HC.out.tmP hk0 hP1
    have MFC := hI (memForB true ts[i] b1 _ cs1 wo (hPo.more fun q hq => Nat.lt_of_lt_of_le (Nat.lt_of_lt_of_le (HC.out.hS q hq).1 HC.out.hB) hk0.size) (HNN.out i hil))
    have hdr := subsTs_drop hil
    rw [hdr] at hxs
    have hNi : xs.length + (subsT ts[i]).length ≤ N := by
     have h1 := congrArg List.length hxs
     have h2 := HN.out
     simp only [List.length_append, List.length_map] at h1 ⊢
     omega
    have CALL : Hid (∀ X, Below wo.heap.size wo X → Calls Tryz.prog 102 #[.pointer none, .pointer (some ⟨b1, o1 + i * 11, none⟩), .func (.yield l) #[] #[]] X (RetV B0 M J Jx xs (subsT ts[i]) X)) := fun X hX =>
     HI.out i hil b1 _ cs1 xs X hP1 (hk0.trans (KeepC.of_below hX)) (HC.out.jb _ _ _ hJx hX) hNi
    have HXS := hI hxs
    have HKX := hI hkx
    have HK0 := hI hk0
    obtain ⟨u, hu⟩ : ∃ u, subsT ts[i] = u := ⟨_, rfl⟩
    rw [hu] at HXS CALL
    clear hE hxs hJx hkx hk0 hP1 hdr hNi hu hPo
    go_wp2_with fail
    refine MFC.out.mono ?_
    rintro e w3 ⟨rfl, hb3⟩
    have c3 := cell1 (HBL.out w3 (HK0.out.trans (KeepC.of_below hb3)))
    have CALL2 := hI (CALL.out w3 hb3)
    have HKB : Hid (KeepC B0 M wo w3) := KeepC.of_below hb3
    clear hb3 c1 CALL MFC
    go_wp2_with fail
    refine CALL2.out.mono ?_
    rintro e w5 ⟨r, rfl, (⟨rfl, ys, h1, h2, h3⟩ | ⟨rfl, ys, h1, h2⟩)⟩
    · have HE : Hid (V1W B0 M J [] ts (i + 1) W w5) := ⟨xs ++ ys, by rw [List.map_append, h1, List.append_assoc]; exact HXS.out, h2, (HKX.out.trans HKB.out).trans h3⟩
      clear h1 h2 h3 CALL2 c3
      go_wp2_with fail
      go_roundw
      case rel => exact ⟨i + 1, by omega, by go_num, HE⟩
      case measure => simp [intOf]; omega
    · have HE : Hid (∀ v, RetSeq J Jx (subsTs ts) (.returned v) w5) := fun v => ⟨⟨_, rfl⟩, .inr ⟨xs ++ ys, by rw [List.map_append, ← HXS.out]; exact (List.prefix_append_right_inj _).2 (h1.trans (List.prefix_append _ _)), h2⟩⟩
      clear h1 h2 CALL2 c3
      go_wp2_with fail
      refine bodyPost_ret (results_none rfl _ _ _) rfl ?_
      exact HE.out _
  · have hiL2 : i = L := by omega
    have hn : ¬ (i : Int) < L := by omega
    have HE : Hid (∀ v, RetSeq J Jx (subsTs ts) (.returned v) wo) := fun v => ⟨⟨_, rfl⟩, .inl ⟨xs, by
     rw [hiL2, ← HL.out, List.drop_length] at hxs
     unfold subsTs at hxs
     rw [List.append_nil] at hxs
     rw [hxs]
     cases ts <;> rfl, hJx⟩⟩
    clear hE hiL2 hlt hxs hJx hkx hk0
    go_wp2
    first | go_end0 | refine bodyPost_ret (results_none rfl _ _ _) rfl ?_
    exact HE.out _
theorem subStops (n : Nat) (w0 : World) (S M : Nat → Prop) (B0 : Nat) (hS : ∀ b, S b → b < B0 ∧ ¬ M b) (hB : B0 ≤ w0.heap.size) (hM : ∀ b, M b → b < B0) (ts : List Tm) (A : Option Addr) (c Bl : Nat) (hbl : w0.heap[Bl]? = some (.cells #[.slice A ts.length c] 30 (0, 0))) (hB0 : Bl < B0 ∧ ¬ M Bl)
 (ha : ArgsAt w0 S ts A c) (hsh : ∀ u ∈ subsTs ts, NmOk u) (hn : ∀ x ∈ ts, x.nodes ≤ 3000) (hl : ts.length ≤ 3000) :
 SeqStopsK Fence.wide n Tryz.prog 100 #[.pointer (some ⟨Bl, 0, none⟩)] (fun x : Spot w0 S => #[.pointer (some ⟨x.1.1, x.1.2.1, none⟩)]) (KeepC B0 M) (fun xs => xs.map Spot.tm = subsTs ts) (fun pre => pre.map Spot.tm <+: subsTs ts) (subsTs ts).length w0 := by
 intro l J Jx W hW hJ hJx hY h0
 refine callsIn_wide.2 ?_
 have C : ItC w0 S M B0 l (subsTs ts).length J Jx := ⟨hS, hB, hM, fun pre W1 W2 h hb => hJ _ _ _ none h ⟨hb.os, hb.tape, hb.output, hb.size, fun k hk _ => hb.block k hk⟩ (fun r e => by cases e), fun pre W1 W2 h hb => hJx _ _ _ none h ⟨hb.os, hb.tape, hb.output, hb.size, fun k hk _ => hb.block k hk⟩ (fun r e => by cases e), fun m pre x W h hl => yieldAny (hY pre x W h hl)⟩
 exact subterms1 C ts A c Bl hbl hB0 ha hsh hn hl W (KeepC.of_below hW) h0 (Nat.le_refl _)
theorem subtermsT (A : Option Addr) (L c : Nat) (w : World) : Calls Tryz.prog 72 #[.slice A L c] w fun e w' => e = .returned (.func (.func 100) #[] #[.pointer (some ⟨w.heap.size, 0, none⟩)]) ∧ w' = w.alloc (.cells #[.slice A L c] 30) := by
 go_enter Tryz.func72, Tryz.ntmps72
 go_wp2_with fail
 go_ret
 exact ⟨rfl, rfl⟩
attribute [local go_sem] Oper.semAt_some
theorem keepC_put {B0 B : Nat} {M : Nat → Prop} (hB : B0 ≤ B) (W : World) (l : Nat) (o o' : Obj) (hl : B ≤ l) (h : W.heap[l]? = some o) (hc : o.isCells = false) (_ : o.isWalk = false) : KeepC B0 M W (W.putObj l o') :=
 ⟨by simp, fun k o2 hk hm ho => by
  by_cases e : k = l
  · subst e
    rw [h] at hk
    cases hk
    rcases ho with ho | ho
    · omega
    · rw [keepO_cells ho] at hc; cases hc
  · exact (World.putObj_heap_other e).trans hk⟩
theorem below_put {n : Nat} {W : World} {l : Nat} (o : Obj) (h : n ≤ l) : Below n W (W.putObj l o) := ⟨rfl, rfl, rfl, by simp, fun k hk => World.putObj_heap_other (by omega)⟩
def NvI {w0 : World} {S : Nat → Prop} (pre : List (Spot w0 S)) : Prop := ∀ y ∈ pre, (y.tm.kd != 1) = true
def HvI {w0 : World} {S : Nat → Prop} (pre : List (Spot w0 S)) : Prop := ∃ y ∈ pre, (y.tm.kd != 1) = false
def noVar (L : List Tm) : Bool := L.all fun t => t.kd != 1
theorem noVar_pre {L L' : List Tm} (h : L <+: L') (hn : noVar L = false) : noVar L' = false := by
 obtain ⟨r, rfl⟩ := h
 unfold noVar at hn ⊢
 rw [List.all_append, hn]; rfl
theorem groundT (t : Tm) (cs : List Value) (w : World) (S : Nat → Prop) (hS : In S w) (h : TmAt w S t cs) (hsh : ∀ u ∈ subsT t, NmOk u) (hn : t.nodes ≤ 3000) :
 Calls Tryz.prog 26 #[vTm cs] w (RetB w (noVar (subsT t))) := by
 have h' := h
 obtain ⟨x0, x1, x2, x3, x4, x5, x6, A, c, rfl, _, _⟩ := h'.eleven
 have hA : Below w.heap.size w ((((w.alloc (.cells #[.int .i64 t.kd, .string t.nm.1, .string t.nm.2, x0, x1, x2, x3, x4, x5, x6, .slice A t.args.length c] 35)).alloc (.cells #[.bool false] 4)).alloc (.cells #[.int .i64 t.kd, .string t.nm.1, .string t.nm.2, x0, x1, x2, x3, x4, x5, x6, .slice A t.args.length c] 35)).alloc (.cells #[.slice (some ⟨w.heap.size + 1 + 1, 0, none⟩) 1 1] 30)) := Below.alloc (Below.alloc (Below.alloc (Below.alloc (Below.refl _ _) (Nat.le_refl _) _) (by simp) _) (by simp <;> omega) _) (by simp <;> omega) _
 have hz : ((((w.alloc (.cells #[.int .i64 t.kd, .string t.nm.1, .string t.nm.2, x0, x1, x2, x3, x4, x5, x6, .slice A t.args.length c] 35)).alloc (.cells #[.bool false] 4)).alloc (.cells #[.int .i64 t.kd, .string t.nm.1, .string t.nm.2, x0, x1, x2, x3, x4, x5, x6, .slice A t.args.length c] 35)).alloc (.cells #[.slice (some ⟨w.heap.size + 1 + 1, 0, none⟩) 1 1] 30)).heap.size = w.heap.size + 4 := by simp
 have B0 : TB ((w.alloc (.cells #[.int .i64 t.kd, .string t.nm.1, .string t.nm.2, x0, x1, x2, x3, x4, x5, x6, .slice A t.args.length c] 35)).alloc (.cells #[.bool false] 4)) w.heap.size [.int .i64 t.kd, .string t.nm.1, .string t.nm.2, x0, x1, x2, x3, x4, x5, x6, .slice A t.args.length c] := (Below.heap_alloc _ _ _ (by simp)).trans (heap_alloc_new w _)
 have R2 : ((((w.alloc (.cells #[.int .i64 t.kd, .string t.nm.1, .string t.nm.2, x0, x1, x2, x3, x4, x5, x6, .slice A t.args.length c] 35)).alloc (.cells #[.bool false] 4)).alloc (.cells #[.int .i64 t.kd, .string t.nm.1, .string t.nm.2, x0, x1, x2, x3, x4, x5, x6, .slice A t.args.length c] 35)).alloc (.cells #[.slice (some ⟨w.heap.size + 1 + 1, 0, none⟩) 1 1] 30)).heap[w.heap.size + 1 + 1]? = some (.cells #[.int .i64 t.kd, .string t.nm.1, .string t.nm.2, x0, x1, x2, x3, x4, x5, x6, .slice A t.args.length c] 35 (0, 0)) := (Below.heap_alloc _ _ _ (by simp)).trans (heap_new_at (by simp))
 have R1 : ((((w.alloc (.cells #[.int .i64 t.kd, .string t.nm.1, .string t.nm.2, x0, x1, x2, x3, x4, x5, x6, .slice A t.args.length c] 35)).alloc (.cells #[.bool false] 4)).alloc (.cells #[.int .i64 t.kd, .string t.nm.1, .string t.nm.2, x0, x1, x2, x3, x4, x5, x6, .slice A t.args.length c] 35)).alloc (.cells #[.slice (some ⟨w.heap.size + 1 + 1, 0, none⟩) 1 1] 30)).heap[w.heap.size + 1]? = some (.cells #[.bool false] 4 (0, 0)) := (Below.heap_alloc _ _ _ (by simp <;> omega)).trans ((Below.heap_alloc _ _ _ (by simp)).trans (heap_new_at (by simp)))
 have R3 : ((((w.alloc (.cells #[.int .i64 t.kd, .string t.nm.1, .string t.nm.2, x0, x1, x2, x3, x4, x5, x6, .slice A t.args.length c] 35)).alloc (.cells #[.bool false] 4)).alloc (.cells #[.int .i64 t.kd, .string t.nm.1, .string t.nm.2, x0, x1, x2, x3, x4, x5, x6, .slice A t.args.length c] 35)).alloc (.cells #[.slice (some ⟨w.heap.size + 1 + 1, 0, none⟩) 1 1] 30)).heap[w.heap.size + 1 + 1 + 1]? = some (.cells #[.slice (some ⟨w.heap.size + 1 + 1, 0, none⟩) 1 1] 30 (0, 0)) := heap_new_at (by simp)
 have k0 := TB.cell B0 0 _ rfl
 have k1 := TB.cell B0 1 _ rfl
 have k2 := TB.cell B0 2 _ rfl
 have k3 := TB.cell B0 3 _ rfl
 have k4 := TB.cell B0 4 _ rfl
 have k5 := TB.cell B0 5 _ rfl
 have k6 := TB.cell B0 6 _ rfl
 have k7 := TB.cell B0 7 _ rfl
 have k8 := TB.cell B0 8 _ rfl
 have k9 := TB.cell B0 9 _ rfl
 have k10 := TB.cell B0 10 _ rfl
 have hST : ∀ b, (S b ∨ b = w.heap.size + 1 + 1) → b < w.heap.size + 4 ∧ ¬ (fun _ : Nat => False) b := fun b hb => ⟨by
  rcases hb with hb | hb
  · have := hS b hb; omega
  · omega, fun h => h⟩
 have hAA : ArgsAt ((((w.alloc (.cells #[.int .i64 t.kd, .string t.nm.1, .string t.nm.2, x0, x1, x2, x3, x4, x5, x6, .slice A t.args.length c] 35)).alloc (.cells #[.bool false] 4)).alloc (.cells #[.int .i64 t.kd, .string t.nm.1, .string t.nm.2, x0, x1, x2, x3, x4, x5, x6, .slice A t.args.length c] 35)).alloc (.cells #[.slice (some ⟨w.heap.size + 1 + 1, 0, none⟩) 1 1] 30)) (fun b => S b ∨ b = w.heap.size + 1 + 1) [t] (some ⟨w.heap.size + 1 + 1, 0, none⟩) 1 := by
  refine ⟨Nat.le_refl _, fun _ => ⟨_, _, rfl, ⟨.inr rfl, _, _, R2⟩, ?_⟩⟩
  unfold TmsAt
  refine ⟨⟨_, (h.below hS hA).more fun b hb => .inl hb, fun j u hj => TB.cell (g := w.heap.size + 1 + 1) R2 j u hj⟩, ?_⟩
  unfold TmsAt; trivial
 have hsub : subsTs [t] = subsT t := by unfold subsTs; rw [show subsTs [] = [] from by unfold subsTs; rfl, List.append_nil]
 have STP := subStops 2 ((((w.alloc (.cells #[.int .i64 t.kd, .string t.nm.1, .string t.nm.2, x0, x1, x2, x3, x4, x5, x6, .slice A t.args.length c] 35)).alloc (.cells #[.bool false] 4)).alloc (.cells #[.int .i64 t.kd, .string t.nm.1, .string t.nm.2, x0, x1, x2, x3, x4, x5, x6, .slice A t.args.length c] 35)).alloc (.cells #[.slice (some ⟨w.heap.size + 1 + 1, 0, none⟩) 1 1] 30)) (fun b => S b ∨ b = w.heap.size + 1 + 1) (fun _ => False) (w.heap.size + 4) hST (by rw [hz]; omega) (fun b hb => hb.elim) [t] (some ⟨w.heap.size + 1 + 1, 0, none⟩) 1 (w.heap.size + 1 + 1 + 1) R3 ⟨by omega, fun h => h⟩ hAA (by rw [hsub]; exact hsh) (fun x hx => by rw [List.mem_singleton] at hx; rw [hx]; exact hn) (by simp)
 rw [hsub] at STP
 unfold vTm
 have HA := hI hA
 have HZ := hI hz
 have HR1 := hI R1
 clear h h' hST hAA hsub R2 R3 R1 hA hS hn B0 hz hsh
 refine (callsIn_wide (n := 3)).1 ?_
 refine callsIn_of_wp_marks Tryz.func26 rfl trivial ?_
 simp only [Tryz.ntmps26, List.size_toArray, List.length_cons, List.length_nil, Nat.reduceAdd, Nat.reduceSub, Array.replicate_succ, Array.replicate_zero, List.push_toArray, List.append_toArray, List.nil_append, List.cons_append]
 gi_wp2_with (refine ⟨trivial, ?_⟩; gi_at_call 72; refine (callsIn_wide.2 (subtermsT _ _ _ _)).mono ?_; rintro e w' ⟨rfl, rfl⟩)
 generalize ((((w.alloc (.cells #[.int .i64 t.kd, .string t.nm.1, .string t.nm.2, x0, x1, x2, x3, x4, x5, x6, .slice A t.args.length c] 35)).alloc (.cells #[.bool false] 4)).alloc (.cells #[.int .i64 t.kd, .string t.nm.1, .string t.nm.2, x0, x1, x2, x3, x4, x5, x6, .slice A t.args.length c] 35)).alloc (.cells #[.slice (some ⟨w.heap.size + 1 + 1, 0, none⟩) 1 1] 30)) = Y at *
 refine wpIn_rangeFunc_ownF rfl (by decide) (gf := 100) (lb := #[.pointer (some ⟨w.heap.size + 1 + 1 + 1, 0, none⟩)]) rfl trivial (enters_of Tryz.func100 (by kernel_rfl) rfl)
  STP KeepC.trans (keepC_put (B := Y.heap.size) (by have := HZ.out; omega)) (Below.refl _ _) (fun _ => rfl)
  (fun pre W => NvI pre ∧ Below Y.heap.size Y W)
  (fun c pre W => c = .ret ∧ HvI pre ∧ Below w.heap.size w W ∧ W.heap[w.heap.size + 1]? = some (.cells #[.bool false] 4 (0, 0)))
  ?hI ?hIx ⟨fun y hy => by simp at hy, Below.refl _ _⟩
  (fun y => { tmps := #[.agg #[.int .i64 t.kd, .string t.nm.1, .string t.nm.2, x0, x1, x2, x3, x4, x5, x6, .slice A t.args.length c], .pointer (some ⟨w.heap.size, 0, none⟩), .pointer (some ⟨w.heap.size + 1, 0, none⟩), .pointer (some ⟨y.1.1, y.1.2.1, none⟩), .agg #[.int .i64 t.kd, .string t.nm.1, .string t.nm.2, x0, x1, x2, x3, x4, x5, x6, .slice A t.args.length c], .slice (some ⟨w.heap.size + 1 + 1, 0, none⟩) 1 1, .func (.func 100) #[] #[.pointer (some ⟨w.heap.size + 1 + 1 + 1, 0, none⟩)], .pointer (some ⟨y.1.1, y.1.2.1, none⟩), undef, undef, undef, undef, undef], defers := [] }) ?assign ?body ?done ?stop
 case hI => exact OwnFrom.and (fun s A B row hs _ _ => hs) (ownFrom_below (Nat.le_refl _) (Nat.le_refl _))
 case hIx =>
  intro c s A B row hs hg hr
  refine ⟨hs.1, hs.2.1, hs.2.2.1.grown hg (hs.2.2.1.size) (fun k e => by have := (hr k e).1; have := HZ.out; omega), (hg.block _ (lt_row hs.2.2.2) (fun e => by have := (hr _ e.symm).1; have := HZ.out; omega)).trans hs.2.2.2⟩
 case assign =>
  intro l y W K hK
  gi_wp2
  exact hK
 case body =>
  rintro l pre ⟨⟨b, k, u⟩, cs, hP, hsu⟩ W ⟨h1, h2⟩ _
  obtain ⟨z0, z1, z2, z3, z4, z5, z6, A2, c2, _, _, _, l0, _⟩ := hP.cells
  have d0 := (h2.cell (p := ⟨b, k, none⟩) (World.block_lt_of_cell? Y _ l0)).trans l0
  have hh := (h2.block _ (lt_row HR1.out)).trans HR1.out
  have e0 := cell1 hh
  have f0 : W.frozen? ⟨w.heap.size + 1, 0, none⟩ = false := by simp [World.frozen?, hh]
  have HP := hI hP
  have HH1 := hI h1
  have HH2 := hI h2
  have HW := hI (HA.out.trans (h2.mono HA.out.size))
  have HHH := hI hh
  clear l0 h1 h2 hh
  have KP : KeepC (w.heap.size + 4) (fun _ => False) W W := KeepC.refl W
  have KO : KeepsOthers W W := KeepsOthers.refl W
  change W.cell? ⟨b, k, none⟩ = some (.int .i64 u.kd) at d0
  cases hv : (u.kd == 1) with
  | false =>
   have hne : (u.kd != 1) = true := by rw [bne, hv]; rfl
   have HI1 : Hid (NvI (pre ++ [(⟨(b, k, u), cs, hP, hsu⟩ : Spot Y fun b => S b ∨ b = w.heap.size + 1 + 1)])) := fun y hy => by
    rcases List.mem_append.1 hy with hy | hy
    · exact HH1.out y hy
    · rw [List.mem_singleton] at hy
      rw [hy]; exact hne
   gi_wp2
   exact ⟨KO, KP, HI1.out, HH2.out⟩
  | true =>
   have hne : (u.kd != 1) = false := by rw [bne, hv]; rfl
   have e1 : (W.setCell ⟨w.heap.size + 1, 0, none⟩ (.bool false)).heap[w.heap.size + 1]? = some (.cells #[.bool false] 4 (0, 0)) := by
    rw [setCell_eq_setRow W _ 0 _ _ (0, 0) _ HHH.out]; exact setRow_heap _ _ _ _ _ _ HHH.out
   have HI1 : Hid (HvI (pre ++ [(⟨(b, k, u), cs, hP, hsu⟩ : Spot Y fun b => S b ∨ b = w.heap.size + 1 + 1)])) := ⟨_, List.mem_append.2 (.inr (List.mem_singleton.2 rfl)), hne⟩
   have HE1 := hI e1
   have hbb : Below w.heap.size w (W.setCell ⟨w.heap.size + 1, 0, none⟩ (.bool false)) := HW.out.setCell (p := ⟨w.heap.size + 1, 0, none⟩) (by show w.heap.size ≤ w.heap.size + 1; omega) _
   have HBB := hI hbb
   clear e1 hbb
   gi_wp2
   exact ⟨KeepsOthers.setCell _ _ _, rfl, HI1.out, HBB.out, HE1.out⟩
 case done =>
  rintro D xs W hD hxs ⟨h1, h2⟩ hK
  have hh := (h2.block _ (lt_row HR1.out)).trans HR1.out
  have e0 := cell1 hh
  have f0 : W.frozen? ⟨w.heap.size + 1, 0, none⟩ = false := by simp [World.frozen?, hh]
  have e1 : (W.setCell ⟨w.heap.size + 1, 0, none⟩ (.bool true)).heap[w.heap.size + 1]? = some (.cells #[.bool true] 4 (0, 0)) := by
   rw [setCell_eq_setRow W _ 0 _ _ (0, 0) _ hh]; exact setRow_heap _ _ _ _ _ _ hh
  have HK2 := hI ((KeepsOthers.setCell W ⟨w.heap.size + 1, 0, none⟩ (.bool true)).same D _ hK rfl)
  have HBB := hI ((HA.out.trans (h2.mono HA.out.size)).setCell (p := ⟨w.heap.size + 1, 0, none⟩) (by show w.heap.size ≤ w.heap.size + 1; omega) (.bool true))
  have hnv : noVar (subsT t) = true := by
   unfold noVar
   rw [← hxs, List.all_map, List.all_eq_true]
   exact fun y hy => h1 y hy
  have HN := hI hnv
  have HE1 := hI e1
  clear h1 h2 hh hxs hK e1 hnv
  gi_wp2
  refine ⟨by simp, .inl ⟨_, _, rfl, run_takeDeferred HK2.out, ?_⟩⟩
  have e2 := cell_kept (cell1 HE1.out) (grownBy_putObj' _ D (.deferred none)) (fun r e => by cases e; exact ⟨_, HK2.out, rfl⟩)
  have hsz := HZ.out
  refine ⟨.bool true, ?_, by rw [HN.out], HBB.out.trans (below_put _ (by omega))⟩
  simp [results, Tryz.f26, go_sem, e2]
 case stop =>
  rintro D c pre W hD hSp ⟨rfl, ⟨y, hy, hyv⟩, h2, h3⟩ hK
  have hnv : noVar (subsT t) = false := by
   refine noVar_pre hSp ?_
   unfold noVar
   rw [List.all_map, List.all_eq_false]
   exact ⟨y, hy, by simpa using hyv⟩
  have HN := hI hnv
  have HBB := hI h2
  have HE1 := hI h3
  have HK2 := hI hK
  clear h2 h3 hK hnv hyv hSp
  gi_wp2
  refine ⟨by simp, .inl ⟨_, _, rfl, run_takeDeferred HK2.out, ?_⟩⟩
  have e2 := cell_kept (cell1 HE1.out) (grownBy_putObj' _ D (.deferred none)) (fun r e => by cases e; exact ⟨_, HK2.out, rfl⟩)
  have hsz := HZ.out
  refine ⟨.bool false, ?_, by rw [HN.out], HBB.out.trans (below_put _ (by omega))⟩
  simp [results, Tryz.f26, go_sem, e2]
def IsV (w : World) (S : Nat → Prop) (p : List Int) (v : Value) : Prop := ∃ A c, v = .slice A p.length c ∧ p.length ≤ c ∧
 (0 < p.length → ∃ b o, A = some ⟨b, o, none⟩ ∧ S b ∧ ∀ i (hi : i < p.length), w.cell? ⟨b, o + i, none⟩ = some (.int .i64 p[i]))
def atP : Tm → List Int → Option Tm
 | t, [] => some t
 | t, i :: p => match (if 0 ≤ i then t.args[i.toNat]? else none) with
  | some x => atP x p
  | none => none
theorem atP_drop (t : Tm) {p : List Int} {i : Nat} (hi : i < p.length) : atP t (p.drop i) = match (if 0 ≤ p[i] then t.args[p[i].toNat]? else none) with
 | some x => atP x (p.drop (i + 1))
 | none => none := by
 rw [List.drop_eq_getElem_cons hi]; rfl
def AtW (w : World) (S : Nat → Prop) (p : List Int) (i : Nat) (R : Option Tm) (wr : World) : Prop := ∃ t cs, atP t (p.drop i) = R ∧ TmAt w S t cs ∧ TB wr w.heap.size cs ∧ TB wr (w.heap.size + 1) zT ∧ Below w.heap.size w wr
theorem atT (t : Tm) (cs : List Value) (p : List Int) (pv : Value) (w : World) (S : Nat → Prop) (hS : In S w) (h : TmAt w S t cs) (hp : IsV w S p pv) (hpl : p.length ≤ 100000) :
 Calls Tryz.prog 42 #[vTm cs, pv] w (RetA w S (atP t p)) := by
 have h' := h
 obtain ⟨x0, x1, x2, x3, x4, x5, x6, A, c, rfl, _, _⟩ := h'.eleven
 obtain ⟨Ap, cp, rfl, hlc, hpc⟩ := hp
 have hA : Below w.heap.size w ((w.alloc (.cells #[.int .i64 t.kd, .string t.nm.1, .string t.nm.2, x0, x1, x2, x3, x4, x5, x6, .slice A t.args.length c] 35)).alloc (.cells #[.int .i64 0, .string ⟨#[]⟩, .string ⟨#[]⟩, .int .i64 0, .string ⟨#[]⟩, .string ⟨#[]⟩, .string ⟨#[]⟩, .string ⟨#[]⟩, .string ⟨#[]⟩, .slice none 0 0, .slice none 0 0] 35)) := Below.alloc (Below.alloc (Below.refl _ _) (Nat.le_refl _) _) (by simp) _
 have B2 : TB ((w.alloc (.cells #[.int .i64 t.kd, .string t.nm.1, .string t.nm.2, x0, x1, x2, x3, x4, x5, x6, .slice A t.args.length c] 35)).alloc (.cells #[.int .i64 0, .string ⟨#[]⟩, .string ⟨#[]⟩, .int .i64 0, .string ⟨#[]⟩, .string ⟨#[]⟩, .string ⟨#[]⟩, .string ⟨#[]⟩, .string ⟨#[]⟩, .slice none 0 0, .slice none 0 0] 35)) w.heap.size [.int .i64 t.kd, .string t.nm.1, .string t.nm.2, x0, x1, x2, x3, x4, x5, x6, .slice A t.args.length c] := (Below.heap_alloc _ _ _ (by simp)).trans (heap_alloc_new w _)
 have B4 : TB ((w.alloc (.cells #[.int .i64 t.kd, .string t.nm.1, .string t.nm.2, x0, x1, x2, x3, x4, x5, x6, .slice A t.args.length c] 35)).alloc (.cells #[.int .i64 0, .string ⟨#[]⟩, .string ⟨#[]⟩, .int .i64 0, .string ⟨#[]⟩, .string ⟨#[]⟩, .string ⟨#[]⟩, .string ⟨#[]⟩, .string ⟨#[]⟩, .slice none 0 0, .slice none 0 0] 35)) (w.heap.size + 1) zT := heap_new_at (by simp)
 obtain ⟨R, hR⟩ : ∃ R, atP t p = R := ⟨_, rfl⟩
 rw [hR]
 obtain ⟨L, hL⟩ : ∃ L, p.length = L := ⟨_, rfl⟩
 rw [hL] at hpl hlc ⊢
 have HL := hI hL
 have HP := hI hpc
 have HS := hI hS
 have h0 : Hid (AtW w S p 0 R ((w.alloc (.cells #[.int .i64 t.kd, .string t.nm.1, .string t.nm.2, x0, x1, x2, x3, x4, x5, x6, .slice A t.args.length c] 35)).alloc (.cells #[.int .i64 0, .string ⟨#[]⟩, .string ⟨#[]⟩, .int .i64 0, .string ⟨#[]⟩, .string ⟨#[]⟩, .string ⟨#[]⟩, .string ⟨#[]⟩, .string ⟨#[]⟩, .slice none 0 0, .slice none 0 0] 35))) := ⟨t, _, by rw [List.drop_zero]; exact hR, h, B2, B4, hA⟩
 clear h h' hR hL hpc hS hA B2 B4
 unfold vTm
 go_enter Tryz.func42, Tryz.ntmps42
 go_wp2_with fail
 generalize ((w.alloc (.cells #[.int .i64 t.kd, .string t.nm.1, .string t.nm.2, x0, x1, x2, x3, x4, x5, x6, .slice A t.args.length c] 35)).alloc (.cells #[.int .i64 0, .string ⟨#[]⟩, .string ⟨#[]⟩, .int .i64 0, .string ⟨#[]⟩, .string ⟨#[]⟩, .string ⟨#[]⟩, .string ⟨#[]⟩, .string ⟨#[]⟩, .slice none 0 0, .slice none 0 0] 35)) = Y at *
 go_loopw [10] (fun v wr => ∃ (i : Nat), i ≤ L ∧ v = .int .i64 (i : Int) ∧ Hid (AtW w S p i R wr)) (fun v _ => L - (intOf v).toNat)
 case atStart => exact ⟨0, Nat.zero_le _, rfl, h0⟩
 case round =>
  clear h0
  obtain ⟨i, hi, rfl, hE⟩ := hrel
  obtain ⟨wo, rfl⟩ : ∃ wo : World, wo = wr := ⟨_, rfl⟩
  obtain ⟨u, cu, hf, hu, hb2, hb4, hbel⟩ := hE.out
  have HB := hI hbel
  have HB4 := hI hb4
  have HU := hI hu
  obtain ⟨y0, y1, y2, y3, y4, y5, y6, A2, c2, ecu, _, ha2⟩ := hu.eleven
  have HCU := hI hu.o11
  have k0 := hb2.cell 0 _ (by rw [ecu]; rfl)
  have k10 := hb2.cell 10 _ (by rw [ecu]; rfl)
  have HB2 := hI hb2
  by_cases hlt : i < L
  · have hil : i < p.length := by rw [HL.out]; exact hlt
    obtain ⟨bp, op, rfl, hSp, hcell⟩ := HP.out (by omega)
    have p0 := (hbel.cell (p := ⟨bp, op + i, none⟩) (HS.out bp hSp)).trans (hcell i hil)
    have hst := atP_drop u hil
    rw [hf] at hst
    have HAA := hI ha2
    obtain ⟨j, hj⟩ : ∃ j, p[i] = j := ⟨_, rfl⟩
    rw [hj] at hst p0
    clear hE hf hu hb2 hb4 hbel hcell hj
    by_cases hk : u.kd = 3
    · by_cases hj0 : j < 0
      · have HST : Hid (R = none) := (show _ = _ by rw [hst, if_neg (by omega)])
        rw [hk] at k0
        clear hst hk ecu ha2
        have hR : R = none := by rw [HST.out]
        subst hR
        go_wp2_with ((with_reducible refine storeTb (cs := zT) (.tmp 4) (.tmp 28) ?_ ?_ ?_ ?_ HB4.out ?_ ?_ ?_ ?_); rfl; rfl; rfl; rfl; rfl; rfl; exact zT_one)
        exact retTbx rfl rfl rfl (HB4.out.set _) rfl ⟨rfl, below_setRowO HB.out (by omega) _⟩
      · by_cases hjl : j < u.args.length
        · obtain ⟨m, rfl⟩ : ∃ m : Nat, j = m := ⟨j.toNat, by omega⟩
          have hml : m < u.args.length := by omega
          have hget : u.args[((m : Nat) : Int).toNat]? = some u.args[m] := by rw [Int.toNat_natCast, List.getElem?_eq_getElem hml]
          rw [if_pos (by omega), hget] at hst
          have HST : Hid (R = atP u.args[m] (p.drop (i + 1))) := hst
          obtain ⟨ba, oa, ca, rfl, hPa⟩ := HAA.out.arg hml
          have hc2 := ha2.1
          have hPw := hPa.below HS.out HB.out
          obtain ⟨z0, z1, z2, z3, z4, z5, z6, A3, c3, eca, _, _, l0, l1, l2, l3, l4, l5, l6, l7, l8, l9, l10⟩ := hPw.cells
          have HTA := hI hPa.2.1
          have HOA := hI hPa.2.1.o11
          subst eca
          subst ecu
          have HNX : Hid (AtW w S p (i + 1) R (wo.setRow w.heap.size [.int .i64 u.args[m].kd, .string u.args[m].nm.1, .string u.args[m].nm.2, z0, z1, z2, z3, z4, z5, z6, .slice A3 u.args[m].args.length c3].toArray)) :=
           ⟨u.args[m], _, HST.out.symm, HTA.out, HB2.out.set _, HB4.out.other (by omega), below_setRowO HB.out (Nat.le_refl _) _⟩
          generalize u.args[m] = x at *
          rw [hk] at k0
          generalize u.args.length = n at *
          have hm3 : (m : Int) < n := by omega
          clear hst hk ha2 hPa hPw hget hml
          go_wp2_with ((with_reducible refine storeTb (cs := [.int .i64 x.kd, .string x.nm.1, .string x.nm.2, z0, z1, z2, z3, z4, z5, z6, .slice A3 x.args.length c3]) (.tmp 2) (.tmp 33) ?_ ?_ ?_ ?_ HB2.out ?_ ?_ ?_ ?_); rfl; rfl; rfl; rfl; rfl; rfl; exact HOA.out.2)
          go_roundw
          case rel => exact ⟨i + 1, by omega, by go_num, HNX⟩
          case measure => simp [intOf]; omega
        · have HST : Hid (R = none) := (show _ = _ by rw [hst, if_pos (by omega), List.getElem?_eq_none (by omega)])
          rw [hk] at k0
          generalize u.args.length = n at *
          clear hst hk ecu ha2
          have hR : R = none := by rw [HST.out]
          subst hR
          go_wp2_with ((with_reducible refine storeTb (cs := zT) (.tmp 4) (.tmp 28) ?_ ?_ ?_ ?_ HB4.out ?_ ?_ ?_ ?_); rfl; rfl; rfl; rfl; rfl; rfl; exact zT_one)
          exact retTbx rfl rfl rfl (HB4.out.set _) rfl ⟨rfl, below_setRowO HB.out (by omega) _⟩
    · have hkn : (u.kd != 3) = true := by rw [bne_iff_ne]; exact hk
      have ha0 : u.args = [] := by
       cases u with
       | var s => rfl
       | con o => rfl
       | app s l => exact absurd rfl hk
      have HST : Hid (R = none) := (show _ = _ by rw [hst, ha0]; simp)
      generalize u.kd = kd at *
      clear hst ecu ha2 ha0
      have hR : R = none := by rw [HST.out]
      subst hR
      go_wp2_with ((with_reducible refine storeTb (cs := zT) (.tmp 4) (.tmp 28) ?_ ?_ ?_ ?_ HB4.out ?_ ?_ ?_ ?_); rfl; rfl; rfl; rfl; rfl; rfl; exact zT_one)
      exact retTbx rfl rfl rfl (HB4.out.set _) rfl ⟨rfl, below_setRowO HB.out (by omega) _⟩
  · have hiL : i = L := by omega
    have hn2 : ¬ (i : Int) < L := by omega
    have hR : R = some u := by
     rw [← hf, hiL, ← HL.out, List.drop_length]; rfl
    subst hR
    have HRS : Hid (RetA w S (some u) (.returned (.tuple #[vTm cu, .bool true])) (wo.setRow (w.heap.size + 1) cu.toArray)) :=
     RetTB.mk (below_setRowO HB.out (by omega) _) (TmAt.boxed ((HU.out.below HS.out HB.out).more fun b hb => .inl hb) HB4.out.nb _)
    clear hE hf hu hb2 hb4 hbel hlt k0 k10 ha2
    subst ecu
    go_wp2_with (first | ((with_reducible refine loadTb (cs := [.int .i64 u.kd, .string u.nm.1, .string u.nm.2, y0, y1, y2, y3, y4, y5, y6, .slice A2 u.args.length c2]) (.tmp 2) ?_ ?_ ?_ HB2.out ?_ ?_); rfl; rfl; rfl; rfl) | ((with_reducible refine storeTb (cs := [.int .i64 u.kd, .string u.nm.1, .string u.nm.2, y0, y1, y2, y3, y4, y5, y6, .slice A2 u.args.length c2]) (.tmp 4) (.tmp 35) ?_ ?_ ?_ ?_ HB4.out ?_ ?_ ?_ ?_); rfl; rfl; rfl; rfl; rfl; rfl; exact HCU.out.2))
    exact retTbx rfl rfl rfl (HB4.out.set _) rfl HRS.out
theorem symKey : Maps.Keyed Tryz.prog 23 := Maps.Keyed.of_law (deep_law_gate (by kernel_rfl) (of_decide_eq_true (by kernel_rfl)) (of_decide_eq_true (by kernel_rfl)) (by kernel_rfl) (by kernel_rfl))
theorem symKeyT : Tryz.prog.keyType 23 = true := by kernel_rfl
theorem symCells : Tryz.prog.cellsOf 23 = 2 := by kernel_rfl
theorem strCells : Tryz.prog.cellsOf 9 = 1 := by kernel_rfl
def symL (p n : ByteArray) : Lit := .string (keyBytes [.string p.data.toList, .string n.data.toList])
theorem keySym (p n : ByteArray) (hp : p.size ≤ maxLen) (hn : n.size ≤ maxLen) : keyOf Tryz.prog 23 (.agg #[.string p, .string n]) = some (symL p n) := by
 unfold keyOf
 rw [Tryz.underlying23]
 simp only [symKeyT, Bool.true_and]
 have hf : Value.formed Tryz.prog 23 (.agg #[.string p, .string n]) = true := by
  simp [Value.formed, Tryz.underlying23, symCells]
 rw [if_pos hf]
 have h2 : Tryz.prog.keyLits (Tryz.prog.types.size + 1) 23 (Value.agg #[.string p, .string n]).cells.toList = some [.string p.data.toList, .string n.data.toList] := by
  have hs : ∃ m, Tryz.prog.types.size = m + 1 := ⟨Tryz.prog.types.size - 1, by kernel_rfl⟩
  obtain ⟨m, hm⟩ := hs
  rw [hm]
  unfold Program.keyLits
  rw [Tryz.underlying23]
  simp [symCells, strCells, Value.cells, Program.keyLits, Tryz.underlying9, hp, hn]
 rw [h2]; rfl
def uN (s : ByteArray) : Nm := (BA [117, 115, 101, 114], s)
def vN4 : List Nm := [uN ⟨#[120]⟩, uN ⟨#[121]⟩, uN ⟨#[122]⟩, uN ⟨#[117]⟩]
def vAt (n : Int) : Nm := vN4.getD (n % 4).toNat (uN ⟨#[120]⟩)
def fNs : List ByteArray := [⟨#[102]⟩, ⟨#[103]⟩, ⟨#[104]⟩]
def fAt (n : Int) : Nm := uN (fNs.getD (n % 3).toNat ⟨#[102]⟩)
mutual
def mtP (PO : Rw → Ob → Prop) : Rw → Tm → Prop
 | .mk k n s l, t => if k % 5 < 2 then t = .var (vAt n) else if k % 5 = 2 then ∃ o, t = .con o ∧ PO (.mk n n s l) o ∧ OkO (4 * (1 + Rw.cnts l)) o else ∃ ts, t = .app (fAt n) ts ∧ ts.length = min 3 l.length ∧ mtsP PO l ts
def mtsP (PO : Rw → Ob → Prop) : List Rw → List Tm → Prop
 | _, [] => True
 | [], _ :: _ => False
 | r :: rs, t :: ts => mtP PO r t ∧ mtsP PO rs ts
end
theorem mtsP_nil (PO : Rw → Ob → Prop) (l : List Rw) : mtsP PO l [] := by cases l <;> (unfold mtsP; trivial)
theorem mtsP_snoc (PO : Rw → Ob → Prop) : ∀ (l : List Rw) (ts : List Tm) (t : Tm) (hi : ts.length < l.length), mtsP PO l ts → mtP PO l[ts.length] t → mtsP PO l (ts ++ [t])
 | r :: rs, [], t, _, _, h => by
  show mtsP PO (r :: rs) [t]
  unfold mtsP
  exact ⟨h, mtsP_nil _ _⟩
 | r :: rs, x :: ts, t, hi, h, h' => by
  unfold mtsP at h
  show mtsP PO (r :: rs) (x :: (ts ++ [t]))
  unfold mtsP
  exact ⟨h.1, mtsP_snoc PO rs ts t (by simpa using hi) h.2 h'⟩
mutual
theorem mtP_nodes {PO : Rw → Ob → Prop} : ∀ (r : Rw) (t : Tm), mtP PO r t → t.nodes ≤ 4 * r.cnt
 | .mk k n s l, t, h => by
  unfold mtP at h
  unfold Rw.cnt
  split at h
  · subst h; unfold Tm.nodes; omega
  · split at h
    · obtain ⟨o, rfl, _, ho⟩ := h
      unfold Tm.nodes; exact ho.nodes
    · obtain ⟨ts, rfl, _, hs⟩ := h
      have := mtsP_nodes l ts hs
      unfold Tm.nodes; omega
theorem mtsP_nodes {PO : Rw → Ob → Prop} : ∀ (l : List Rw) (ts : List Tm), mtsP PO l ts → Tm.nodesL ts ≤ 4 * Rw.cnts l
 | _, [], _ => by unfold Tm.nodesL; omega
 | [], _ :: _, h => by unfold mtsP at h; exact h.elim
 | r :: rs, t :: ts, h => by
  unfold mtsP at h
  unfold Tm.nodesL Rw.cnts
  have h1 := mtP_nodes r t h.1
  have h2 := mtsP_nodes rs ts h.2
  omega
end
mutual
theorem mtP_bd {PO : Rw → Ob → Prop} : ∀ (r : Rw) (t : Tm), mtP PO r t → t.bd 10
 | .mk k n s l, t, h => by
  unfold mtP at h
  split at h
  · subst h; unfold Tm.bd; trivial
  · split at h
    · obtain ⟨o, rfl, _, ho⟩ := h
      unfold Tm.bd; exact ho.bd
    · obtain ⟨ts, rfl, _, hs⟩ := h
      unfold Tm.bd; exact mtsP_bd l ts hs
theorem mtsP_bd {PO : Rw → Ob → Prop} : ∀ (l : List Rw) (ts : List Tm), mtsP PO l ts → Tm.bdL 10 ts
 | _, [], _ => by unfold Tm.bdL; trivial
 | [], _ :: _, h => by unfold mtsP at h; exact h.elim
 | r :: rs, t :: ts, h => by
  unfold mtsP at h
  unfold Tm.bdL
  exact ⟨mtP_bd r t h.1, mtsP_bd rs ts h.2⟩
end
mutual
theorem mtP_dep {PO : Rw → Ob → Prop} : ∀ (r : Rw) (t : Tm), mtP PO r t → t.dep ≤ r.cnt
 | .mk k n s l, t, h => by
  unfold mtP at h
  unfold Rw.cnt
  split at h
  · subst h; unfold Tm.dep; omega
  · split at h
    · obtain ⟨o, rfl, _, ho⟩ := h
      unfold Tm.dep; omega
    · obtain ⟨ts, rfl, _, hs⟩ := h
      have := mtsP_dep l ts hs
      unfold Tm.dep; omega
theorem mtsP_dep {PO : Rw → Ob → Prop} : ∀ (l : List Rw) (ts : List Tm), mtsP PO l ts → Tm.depL ts ≤ Rw.cnts l
 | _, [], _ => by unfold Tm.depL; omega
 | [], _ :: _, h => by unfold mtsP at h; exact h.elim
 | r :: rs, t :: ts, h => by
  unfold mtsP at h
  unfold Tm.depL Rw.cnts
  have h1 := mtP_dep r t h.1
  have h2 := mtsP_dep rs ts h.2
  omega
end
def NsV (w : World) (S : Nat → Prop) (l : List Nm) (v : Value) : Prop := ∃ A c, v = .slice A l.length c ∧ l.length ≤ c ∧
 (0 < l.length → ∃ b o, A = some ⟨b, o, none⟩ ∧ (S b ∧ Plain w b) ∧ ∀ i (hi : i < l.length), w.cell? ⟨b, o + i * 2, none⟩ = some (.string l[i].1) ∧ w.cell? ⟨b, o + i * 2 + 1, none⟩ = some (.string l[i].2))
theorem NsV.keep {w w' : World} {S S' : Nat → Prop} (hS : ∀ b, S b → S' b) (hk : ∀ b, S b → w'.heap[b]? = w.heap[b]?) {l : List Nm} {v : Value} (h : NsV w S l v) : NsV w' S' l v := by
 obtain ⟨A, c, h1, h2, h3⟩ := h
 refine ⟨A, c, h1, h2, fun hl => ?_⟩
 obtain ⟨b, o, e, hb, hr⟩ := h3 hl
 exact ⟨b, o, e, ⟨hS b hb.1, hb.2.keep (hk b hb.1)⟩, fun i hi => ⟨(World.cell?_of_block (a := ⟨b, o + i * 2, none⟩) (hk b hb.1)).trans (hr i hi).1, (World.cell?_of_block (a := ⟨b, o + i * 2 + 1, none⟩) (hk b hb.1)).trans (hr i hi).2⟩⟩
theorem NsV.more {w : World} {S S' : Nat → Prop} {l : List Nm} {v : Value} (h : NsV w S l v) (hS : ∀ b, S b → S' b) : NsV w S' l v := h.keep hS fun _ _ => rfl
def RetNs (w : World) (l : List Nm) (e : Ending) (w' : World) : Prop := ∃ v, e = .returned v ∧ NsV w' (Upto w w' NoB) l v ∧ Below w.heap.size w w'
theorem varsT (n : Nat) (hn : n ≤ 4) (w : World) : Calls Tryz.prog 47 #[.int .i64 n] w (RetNs w (vN4.take n)) := by
 have HU : ∀ (s : ByteArray) (W : World), Below w.heap.size w W → Calls Tryz.prog 46 #[.string s] W (fun e w' => e = .returned (.agg #[.string (BA [117, 115, 101, 114]), .string s]) ∧ Below w.heap.size w w') := fun s W hb => by
  refine (userO s W).mono ?_
  rintro e w' ⟨rfl, h⟩
  exact ⟨rfl, hb.trans (h.mono hb.size)⟩
 have hQ : Hid (∀ W, Below w.heap.size w W → RetNs w (vN4.take n) (.returned (.slice (some ⟨W.heap.size, 0, none⟩) n 4)) (W.alloc (.cells #[.string (BA [117, 115, 101, 114]), .string ⟨#[120]⟩, .string (BA [117, 115, 101, 114]), .string ⟨#[121]⟩, .string (BA [117, 115, 101, 114]), .string ⟨#[122]⟩, .string (BA [117, 115, 101, 114]), .string ⟨#[117]⟩] 23))) := fun W hb => by
  have hl : (vN4.take n).length = n := by simp [vN4]; omega
  refine ⟨_, rfl, ⟨some ⟨W.heap.size, 0, none⟩, 4, by rw [hl], by omega, fun _ => ⟨W.heap.size, 0, rfl, ⟨.inr ⟨hb.size, by simp⟩, _, _, heap_alloc_new W _⟩, fun i hi => ?_⟩⟩, Below.alloc hb hb.size _⟩
  have hi4 : i < 4 := by omega
  have h0 : (vN4.take n)[i] = vN4[i]'(by show i < 4; omega) := by simp
  rw [h0, Nat.zero_add, cell_of_row _ _ _ _ _ _ (heap_alloc_new W _), cell_of_row _ _ _ _ _ _ (heap_alloc_new W _)]
  match i, hi4 with
  | 0, _ => exact ⟨rfl, rfl⟩
  | 1, _ => exact ⟨rfl, rfl⟩
  | 2, _ => exact ⟨rfl, rfl⟩
  | 3, _ => exact ⟨rfl, rfl⟩
 have hm : min (n : Int) 4 = n := by omega
 have hm2 : max 0 (n : Int) = n := by omega
 have hb0 : Below w.heap.size w w := Below.refl _ _
 go_enter Tryz.func47, Tryz.ntmps47
 go_wp2_with fail
 refine (HU ⟨#[120]⟩ _ hb0).mono ?_
 rintro e w1 ⟨rfl, hb1⟩
 go_wp2_with fail
 refine (HU ⟨#[121]⟩ _ hb1).mono ?_
 rintro e w2 ⟨rfl, hb2⟩
 go_wp2_with fail
 refine (HU ⟨#[122]⟩ _ hb2).mono ?_
 rintro e w3 ⟨rfl, hb3⟩
 go_wp2_with fail
 refine (HU ⟨#[117]⟩ _ hb3).mono ?_
 rintro e w4 ⟨rfl, hb4⟩
 have HB := hI hb4
 clear hb1 hb2 hb3 hb4 hb0 HU
 go_wp2_with fail
 go_ret
 exact hQ.out _ HB.out
end Go.Proofs.YtinjhnnpbejccaaGreatDoor
