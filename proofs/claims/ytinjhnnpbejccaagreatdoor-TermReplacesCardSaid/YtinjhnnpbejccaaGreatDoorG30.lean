/- The walk of TermComposes. -/
import Derived.Test.YtinjhnnpbejccaaGreatDoorG19
import Derived.Test.YtinjhnnpbejccaaGreatDoorG29
import Derived.Test.YtinjhnnpbejccaaGreatDoorG28
import Derived.Test.YtinjhnnpbejccaaGreatDoorG23
import Derived.Laws.EntriesVeiled
import Derived.Test.YtinjhnnpbejccaaGreatDoorG21
import Derived.Test.YtinjhnnpbejccaaGreatDoorG24
namespace Go.Proofs.YtinjhnnpbejccaaGreatDoor
open Go Go.RowKit
set_option linter.unusedVariables false
set_option maxHeartbeats 32000000
set_option maxRecDepth 100000

mutual
theorem eqT_sound : ∀ t t' : Tm, eqT t t' = true → t = t'
 | .var s, t', h => by
  cases t' with
  | var s' => unfold eqT at h; rw [eqN_iff.1 h]
  | con o => unfold eqT at h; cases h
  | app s l => unfold eqT at h; cases h
 | .con o, t', h => by
  cases t' with
  | var s' => unfold eqT at h; cases h
  | con o' => unfold eqT at h; rw [of_decide_eq_true h]
  | app s l => unfold eqT at h; cases h
 | .app s l, t', h => by
  cases t' with
  | var s' => unfold eqT at h; cases h
  | con o' => unfold eqT at h; cases h
  | app s' l' =>
   unfold eqT at h
   rw [Bool.and_eq_true] at h
   rw [eqN_iff.1 h.1, eqTs_sound l l' h.2]
theorem eqTs_sound : ∀ l l' : List Tm, eqTs l l' = true → l = l'
 | [], [], _ => rfl
 | [], _ :: _, h => by unfold eqTs at h; cases h
 | _ :: _, [], h => by unfold eqTs at h; cases h
 | t :: l, t' :: l', h => by
  unfold eqTs at h
  rw [Bool.and_eq_true] at h
  rw [eqT_sound t t' h.1, eqTs_sound l l' h.2]
end
theorem eqT_comm (t t' : Tm) : eqT t t' = eqT t' t := by
 cases h : eqT t t' with
 | true => rw [eqT_sound t t' h, eqT_refl]
 | false =>
  cases h' : eqT t' t with
  | true => rw [eqT_sound t' t h', eqT_refl] at h; cases h
  | false => rfl
mutual
def replT (u n : Tm) : Tm → Tm
 | .var s => if eqT (.var s) u then n else .var s
 | .con o => if eqT (.con o) u then n else .con o
 | .app s l => if eqT (.app s l) u then n else .app s (replTs u n l)
def replTs (u n : Tm) : List Tm → List Tm
 | [] => []
 | t :: l => replT u n t :: replTs u n l
end
theorem replTs_map (u n : Tm) : ∀ l : List Tm, replTs u n l = l.map (replT u n)
 | [] => by unfold replTs; rfl
 | t :: l => by unfold replTs; rw [replTs_map u n l]; rfl
theorem replT_hit {u n t : Tm} (h : eqT t u = true) : replT u n t = n := by
 cases t <;> (unfold replT; rw [if_pos h])
theorem replT_flat {u n t : Tm} (h : eqT t u = false) (hk : t.kd ≠ 3) : replT u n t = t := by
 cases t with
 | var s => unfold replT; rw [if_neg (by rw [h]; simp)]
 | con o => unfold replT; rw [if_neg (by rw [h]; simp)]
 | app s l => exact absurd rfl hk
theorem replT_app {u n t : Tm} (h : eqT t u = false) (hk : t.kd = 3) : replT u n t = .app t.nm (t.args.map (replT u n)) := by
 cases t with
 | var s => exact absurd hk (by simp [Tm.kd])
 | con o => exact absurd hk (by simp [Tm.kd])
 | app s l => unfold replT; rw [if_neg (by rw [h]; simp), replTs_map]; rfl
def LT1 (w0 : World) (S : Nat → Prop) (t : Tm) : Lv := fun v lo hi w => w0.heap.size ≤ w.heap.size ∧ ∃ cs, v = .slice (some ⟨lo, 0, none⟩) 1 1 ∧ w.heap[lo]? = some (.cells cs.toArray 35 (0, 0)) ∧ lo < hi ∧ TmAt w (Upto w0 w S) t cs
theorem mLT1 {w0 : World} {S : Nat → Prop} (hS : In S w0) (t : Tm) : Mon (LT1 w0 S t) := fun _ _ _ _ _ ⟨h0, cs, h, hr, hl, k⟩ hm hb => ⟨Nat.le_trans h0 hb.size, cs, h, (hb.block _ (by omega)).trans hr, hl, TmAt.keep (fun b hb' => upto_more hb.size b hb') (fun b hb' => hb.block b (upto_lt hS h0 b hb')) _ _ k⟩
theorem MkT.step2 {S0 : Nat → Prop} {W wo w3 w4 : World} {l : List Tm} {v v' : Value} {xs : List (List Value)} (h : MkT S0 W wo l v xs) (hS : In S0 W) (hb : Below wo.heap.size wo w3) {t : Tm} {cs : List Value}
 (hp : TmAt w3 (Upto wo w3 S0) t cs) (h4 : w4.ownsRow W.heap.size 35 11 v' (l.length + 1) (xs.flatten ++ cs)) (hg : w3.grownBy w4 v.ownBlock) (hat : v'.ownBlock = v.ownBlock ∨ v'.ownBlock = some w3.heap.size) :
 MkT S0 W w4 (l ++ [t]) v' (xs ++ [cs]) := by
 have hown := own_lt h.own
 have h34 := hg.size
 have hs3 := hb.size
 have hsW := h.bel.size
 have blk : ∀ b, b < w3.heap.size → v.ownBlock ≠ some b → w4.heap[b]? = w3.heap[b]? := fun b hb' hne => hg.block b hb' (fun e => hne e.symm)
 have hne' : ∀ b, b < w3.heap.size → v.ownBlock ≠ some b → v'.ownBlock ≠ some b := fun b hb' hne e => by
  rcases hat with h0 | h0
  · exact hne (h0.symm.trans e)
  · rw [h0] at e
    have : w3.heap.size = b := by injection e
    omega
 refine ⟨by simp [h.len], by rw [List.flatten_append]; simpa using h4, fun i hi hx => ?_, ?_⟩
 · by_cases hil : i < l.length
   · have hix : i < xs.length := by rw [h.len]; exact hil
     rw [List.getElem_append_left hil, List.getElem_append_left hix]
     refine TmAt.keep (fun b hb' => ⟨hb'.1, by omega, hne' b (by omega) hb'.2.2⟩) (fun b hb' => ?_) _ _ (h.tms i hil hix)
     rw [blk b (by omega) hb'.2.2, hb.block b hb'.2.1]
   · have hie : i = l.length := by simp at hi; omega
     subst hie
     have e2 : (xs ++ [cs])[l.length] = cs := by simp [← h.len]
     have e1 : (l ++ [t])[l.length] = t := by simp
     rw [e1, e2]
     have hn : ∀ b, Upto wo w3 S0 b → (S0 b ∨ W.heap.size ≤ b) ∧ b < w3.heap.size ∧ v.ownBlock ≠ some b := fun b hb' => by
      rcases hb' with h0 | h0
      · have := hS b h0
        exact ⟨.inl h0, by omega, fun e => by have := (hown b e).1; omega⟩
      · exact ⟨.inr (by omega), h0.2, fun e => by have := (hown b e).2; omega⟩
     refine TmAt.keep (fun b hb' => ?_) (fun b hb' => ?_) _ _ hp
     · obtain ⟨h0, h1, h2⟩ := hn b hb'
       exact ⟨h0, by omega, hne' b h1 h2⟩
     · obtain ⟨h0, h1, h2⟩ := hn b hb'
       exact blk b h1 h2
 · exact (h.bel.trans (hb.mono hsW)).grown hg (by have := h.bel.size; omega) (fun k hk => by have := (hown k hk).1; omega)
theorem replaceR (u n : Tm) (S : Nat → Prop) : ∀ (t : Tm) (w : World) (cs cu cn : List Value), In S w → t.nodes ≤ 3000 → TmAt w S t cs → TmAt w S u cu → TmAt w S n cn →
 Calls Tryz.prog 40 #[vTm cs, vTm cu, vTm cn] w (RetT w S (replT u n t)) := by
 intro t
 induction t using Tm.indA with
 | h t ih =>
  intro w cs cu cn hS hn h hu hnw
  have h' := h
  have hu' := hu
  have hn' := hnw
  obtain ⟨x0, x1, x2, x3, x4, x5, x6, A, c, rfl, _, ha⟩ := h'.eleven
  obtain ⟨y0, y1, y2, y3, y4, y5, y6, A2, c2, rfl, _, _⟩ := hu'.eleven
  obtain ⟨v0, v1, v2, v3, v4, v5, v6, A3, c3, rfl, _, _⟩ := hn'.eleven
  have hle := ha.1
  have hA : Below w.heap.size w ((((w.alloc (.cells #[.int .i64 t.kd, .string t.nm.1, .string t.nm.2, x0, x1, x2, x3, x4, x5, x6, .slice A t.args.length c] 35)).alloc (.cells #[.int .i64 u.kd, .string u.nm.1, .string u.nm.2, y0, y1, y2, y3, y4, y5, y6, .slice A2 u.args.length c2] 35)).alloc (.cells #[.int .i64 n.kd, .string n.nm.1, .string n.nm.2, v0, v1, v2, v3, v4, v5, v6, .slice A3 n.args.length c3] 35)).alloc (.cells #[.int .i64 0, .string ⟨#[]⟩, .string ⟨#[]⟩, .int .i64 0, .string ⟨#[]⟩, .string ⟨#[]⟩, .string ⟨#[]⟩, .string ⟨#[]⟩, .string ⟨#[]⟩, .slice none 0 0, .slice none 0 0] 35)) := Below.alloc (Below.alloc (Below.alloc (Below.alloc (Below.refl _ _) (Nat.le_refl _) _) (by simp) _) (by simp <;> omega) _) (by simp <;> omega) _
  have H3 : Hid (TB ((((w.alloc (.cells #[.int .i64 t.kd, .string t.nm.1, .string t.nm.2, x0, x1, x2, x3, x4, x5, x6, .slice A t.args.length c] 35)).alloc (.cells #[.int .i64 u.kd, .string u.nm.1, .string u.nm.2, y0, y1, y2, y3, y4, y5, y6, .slice A2 u.args.length c2] 35)).alloc (.cells #[.int .i64 n.kd, .string n.nm.1, .string n.nm.2, v0, v1, v2, v3, v4, v5, v6, .slice A3 n.args.length c3] 35)).alloc (.cells #[.int .i64 0, .string ⟨#[]⟩, .string ⟨#[]⟩, .int .i64 0, .string ⟨#[]⟩, .string ⟨#[]⟩, .string ⟨#[]⟩, .string ⟨#[]⟩, .string ⟨#[]⟩, .slice none 0 0, .slice none 0 0] 35)) w.heap.size [.int .i64 t.kd, .string t.nm.1, .string t.nm.2, x0, x1, x2, x3, x4, x5, x6, .slice A t.args.length c]) := (Below.heap_alloc _ _ _ (by simp <;> omega)).trans ((Below.heap_alloc _ _ _ (by simp <;> omega)).trans ((Below.heap_alloc _ _ _ (by simp)).trans (heap_alloc_new w _)))
  have H4 : Hid (TB ((((w.alloc (.cells #[.int .i64 t.kd, .string t.nm.1, .string t.nm.2, x0, x1, x2, x3, x4, x5, x6, .slice A t.args.length c] 35)).alloc (.cells #[.int .i64 u.kd, .string u.nm.1, .string u.nm.2, y0, y1, y2, y3, y4, y5, y6, .slice A2 u.args.length c2] 35)).alloc (.cells #[.int .i64 n.kd, .string n.nm.1, .string n.nm.2, v0, v1, v2, v3, v4, v5, v6, .slice A3 n.args.length c3] 35)).alloc (.cells #[.int .i64 0, .string ⟨#[]⟩, .string ⟨#[]⟩, .int .i64 0, .string ⟨#[]⟩, .string ⟨#[]⟩, .string ⟨#[]⟩, .string ⟨#[]⟩, .string ⟨#[]⟩, .slice none 0 0, .slice none 0 0] 35)) (w.heap.size + 1) [.int .i64 u.kd, .string u.nm.1, .string u.nm.2, y0, y1, y2, y3, y4, y5, y6, .slice A2 u.args.length c2]) := (Below.heap_alloc _ _ _ (by simp <;> omega)).trans ((Below.heap_alloc _ _ _ (by simp)).trans (heap_new_at (by simp)))
  have H5 : Hid (TB ((((w.alloc (.cells #[.int .i64 t.kd, .string t.nm.1, .string t.nm.2, x0, x1, x2, x3, x4, x5, x6, .slice A t.args.length c] 35)).alloc (.cells #[.int .i64 u.kd, .string u.nm.1, .string u.nm.2, y0, y1, y2, y3, y4, y5, y6, .slice A2 u.args.length c2] 35)).alloc (.cells #[.int .i64 n.kd, .string n.nm.1, .string n.nm.2, v0, v1, v2, v3, v4, v5, v6, .slice A3 n.args.length c3] 35)).alloc (.cells #[.int .i64 0, .string ⟨#[]⟩, .string ⟨#[]⟩, .int .i64 0, .string ⟨#[]⟩, .string ⟨#[]⟩, .string ⟨#[]⟩, .string ⟨#[]⟩, .string ⟨#[]⟩, .slice none 0 0, .slice none 0 0] 35)) (w.heap.size + 1 + 1) [.int .i64 n.kd, .string n.nm.1, .string n.nm.2, v0, v1, v2, v3, v4, v5, v6, .slice A3 n.args.length c3]) := (Below.heap_alloc _ _ _ (by simp)).trans (heap_new_at (by simp))
  have H6 : Hid (TB ((((w.alloc (.cells #[.int .i64 t.kd, .string t.nm.1, .string t.nm.2, x0, x1, x2, x3, x4, x5, x6, .slice A t.args.length c] 35)).alloc (.cells #[.int .i64 u.kd, .string u.nm.1, .string u.nm.2, y0, y1, y2, y3, y4, y5, y6, .slice A2 u.args.length c2] 35)).alloc (.cells #[.int .i64 n.kd, .string n.nm.1, .string n.nm.2, v0, v1, v2, v3, v4, v5, v6, .slice A3 n.args.length c3] 35)).alloc (.cells #[.int .i64 0, .string ⟨#[]⟩, .string ⟨#[]⟩, .int .i64 0, .string ⟨#[]⟩, .string ⟨#[]⟩, .string ⟨#[]⟩, .string ⟨#[]⟩, .string ⟨#[]⟩, .slice none 0 0, .slice none 0 0] 35)) (w.heap.size + 1 + 1 + 1) zT) := heap_new_at (by simp)
  have HSY : Hid (In S ((((w.alloc (.cells #[.int .i64 t.kd, .string t.nm.1, .string t.nm.2, x0, x1, x2, x3, x4, x5, x6, .slice A t.args.length c] 35)).alloc (.cells #[.int .i64 u.kd, .string u.nm.1, .string u.nm.2, y0, y1, y2, y3, y4, y5, y6, .slice A2 u.args.length c2] 35)).alloc (.cells #[.int .i64 n.kd, .string n.nm.1, .string n.nm.2, v0, v1, v2, v3, v4, v5, v6, .slice A3 n.args.length c3] 35)).alloc (.cells #[.int .i64 0, .string ⟨#[]⟩, .string ⟨#[]⟩, .int .i64 0, .string ⟨#[]⟩, .string ⟨#[]⟩, .string ⟨#[]⟩, .string ⟨#[]⟩, .string ⟨#[]⟩, .slice none 0 0, .slice none 0 0] 35))) := hS.later hA.size
  have HU : Hid (TmAt ((((w.alloc (.cells #[.int .i64 t.kd, .string t.nm.1, .string t.nm.2, x0, x1, x2, x3, x4, x5, x6, .slice A t.args.length c] 35)).alloc (.cells #[.int .i64 u.kd, .string u.nm.1, .string u.nm.2, y0, y1, y2, y3, y4, y5, y6, .slice A2 u.args.length c2] 35)).alloc (.cells #[.int .i64 n.kd, .string n.nm.1, .string n.nm.2, v0, v1, v2, v3, v4, v5, v6, .slice A3 n.args.length c3] 35)).alloc (.cells #[.int .i64 0, .string ⟨#[]⟩, .string ⟨#[]⟩, .int .i64 0, .string ⟨#[]⟩, .string ⟨#[]⟩, .string ⟨#[]⟩, .string ⟨#[]⟩, .string ⟨#[]⟩, .slice none 0 0, .slice none 0 0] 35)) S u [.int .i64 u.kd, .string u.nm.1, .string u.nm.2, y0, y1, y2, y3, y4, y5, y6, .slice A2 u.args.length c2]) := hu.below hS hA
  have HN : Hid (TmAt ((((w.alloc (.cells #[.int .i64 t.kd, .string t.nm.1, .string t.nm.2, x0, x1, x2, x3, x4, x5, x6, .slice A t.args.length c] 35)).alloc (.cells #[.int .i64 u.kd, .string u.nm.1, .string u.nm.2, y0, y1, y2, y3, y4, y5, y6, .slice A2 u.args.length c2] 35)).alloc (.cells #[.int .i64 n.kd, .string n.nm.1, .string n.nm.2, v0, v1, v2, v3, v4, v5, v6, .slice A3 n.args.length c3] 35)).alloc (.cells #[.int .i64 0, .string ⟨#[]⟩, .string ⟨#[]⟩, .int .i64 0, .string ⟨#[]⟩, .string ⟨#[]⟩, .string ⟨#[]⟩, .string ⟨#[]⟩, .string ⟨#[]⟩, .slice none 0 0, .slice none 0 0] 35)) S n [.int .i64 n.kd, .string n.nm.1, .string n.nm.2, v0, v1, v2, v3, v4, v5, v6, .slice A3 n.args.length c3]) := hnw.below hS hA
  have HT : Hid (TmAt ((((w.alloc (.cells #[.int .i64 t.kd, .string t.nm.1, .string t.nm.2, x0, x1, x2, x3, x4, x5, x6, .slice A t.args.length c] 35)).alloc (.cells #[.int .i64 u.kd, .string u.nm.1, .string u.nm.2, y0, y1, y2, y3, y4, y5, y6, .slice A2 u.args.length c2] 35)).alloc (.cells #[.int .i64 n.kd, .string n.nm.1, .string n.nm.2, v0, v1, v2, v3, v4, v5, v6, .slice A3 n.args.length c3] 35)).alloc (.cells #[.int .i64 0, .string ⟨#[]⟩, .string ⟨#[]⟩, .int .i64 0, .string ⟨#[]⟩, .string ⟨#[]⟩, .string ⟨#[]⟩, .string ⟨#[]⟩, .string ⟨#[]⟩, .slice none 0 0, .slice none 0 0] 35)) S t [.int .i64 t.kd, .string t.nm.1, .string t.nm.2, x0, x1, x2, x3, x4, x5, x6, .slice A t.args.length c]) := h.below hS hA
  have ON := hI hnw.o11
  have OT := hI h.o11
  have CEQ : Hid (Calls Tryz.prog 17 #[.agg #[.int .i64 t.kd, .string t.nm.1, .string t.nm.2, x0, x1, x2, x3, x4, x5, x6, .slice A t.args.length c], .agg #[.int .i64 u.kd, .string u.nm.1, .string u.nm.2, y0, y1, y2, y3, y4, y5, y6, .slice A2 u.args.length c2]] ((((w.alloc (.cells #[.int .i64 t.kd, .string t.nm.1, .string t.nm.2, x0, x1, x2, x3, x4, x5, x6, .slice A t.args.length c] 35)).alloc (.cells #[.int .i64 u.kd, .string u.nm.1, .string u.nm.2, y0, y1, y2, y3, y4, y5, y6, .slice A2 u.args.length c2] 35)).alloc (.cells #[.int .i64 n.kd, .string n.nm.1, .string n.nm.2, v0, v1, v2, v3, v4, v5, v6, .slice A3 n.args.length c3] 35)).alloc (.cells #[.int .i64 0, .string ⟨#[]⟩, .string ⟨#[]⟩, .int .i64 0, .string ⟨#[]⟩, .string ⟨#[]⟩, .string ⟨#[]⟩, .string ⟨#[]⟩, .string ⟨#[]⟩, .slice none 0 0, .slice none 0 0] 35)) (RetB ((((w.alloc (.cells #[.int .i64 t.kd, .string t.nm.1, .string t.nm.2, x0, x1, x2, x3, x4, x5, x6, .slice A t.args.length c] 35)).alloc (.cells #[.int .i64 u.kd, .string u.nm.1, .string u.nm.2, y0, y1, y2, y3, y4, y5, y6, .slice A2 u.args.length c2] 35)).alloc (.cells #[.int .i64 n.kd, .string n.nm.1, .string n.nm.2, v0, v1, v2, v3, v4, v5, v6, .slice A3 n.args.length c3] 35)).alloc (.cells #[.int .i64 0, .string ⟨#[]⟩, .string ⟨#[]⟩, .int .i64 0, .string ⟨#[]⟩, .string ⟨#[]⟩, .string ⟨#[]⟩, .string ⟨#[]⟩, .string ⟨#[]⟩, .slice none 0 0, .slice none 0 0] 35)) (eqT t u))) := equalR S t u ((((w.alloc (.cells #[.int .i64 t.kd, .string t.nm.1, .string t.nm.2, x0, x1, x2, x3, x4, x5, x6, .slice A t.args.length c] 35)).alloc (.cells #[.int .i64 u.kd, .string u.nm.1, .string u.nm.2, y0, y1, y2, y3, y4, y5, y6, .slice A2 u.args.length c2] 35)).alloc (.cells #[.int .i64 n.kd, .string n.nm.1, .string n.nm.2, v0, v1, v2, v3, v4, v5, v6, .slice A3 n.args.length c3] 35)).alloc (.cells #[.int .i64 0, .string ⟨#[]⟩, .string ⟨#[]⟩, .int .i64 0, .string ⟨#[]⟩, .string ⟨#[]⟩, .string ⟨#[]⟩, .string ⟨#[]⟩, .string ⟨#[]⟩, .slice none 0 0, .slice none 0 0] 35)) _ _ HSY.out hn HT.out HU.out
  have IH : Hid (∀ x ∈ t.args, ∀ X cx, Below ((((w.alloc (.cells #[.int .i64 t.kd, .string t.nm.1, .string t.nm.2, x0, x1, x2, x3, x4, x5, x6, .slice A t.args.length c] 35)).alloc (.cells #[.int .i64 u.kd, .string u.nm.1, .string u.nm.2, y0, y1, y2, y3, y4, y5, y6, .slice A2 u.args.length c2] 35)).alloc (.cells #[.int .i64 n.kd, .string n.nm.1, .string n.nm.2, v0, v1, v2, v3, v4, v5, v6, .slice A3 n.args.length c3] 35)).alloc (.cells #[.int .i64 0, .string ⟨#[]⟩, .string ⟨#[]⟩, .int .i64 0, .string ⟨#[]⟩, .string ⟨#[]⟩, .string ⟨#[]⟩, .string ⟨#[]⟩, .string ⟨#[]⟩, .slice none 0 0, .slice none 0 0] 35)).heap.size ((((w.alloc (.cells #[.int .i64 t.kd, .string t.nm.1, .string t.nm.2, x0, x1, x2, x3, x4, x5, x6, .slice A t.args.length c] 35)).alloc (.cells #[.int .i64 u.kd, .string u.nm.1, .string u.nm.2, y0, y1, y2, y3, y4, y5, y6, .slice A2 u.args.length c2] 35)).alloc (.cells #[.int .i64 n.kd, .string n.nm.1, .string n.nm.2, v0, v1, v2, v3, v4, v5, v6, .slice A3 n.args.length c3] 35)).alloc (.cells #[.int .i64 0, .string ⟨#[]⟩, .string ⟨#[]⟩, .int .i64 0, .string ⟨#[]⟩, .string ⟨#[]⟩, .string ⟨#[]⟩, .string ⟨#[]⟩, .string ⟨#[]⟩, .slice none 0 0, .slice none 0 0] 35)) X → TmAt X S x cx → Calls Tryz.prog 40 #[vTm cx, .agg #[.int .i64 u.kd, .string u.nm.1, .string u.nm.2, y0, y1, y2, y3, y4, y5, y6, .slice A2 u.args.length c2], .agg #[.int .i64 n.kd, .string n.nm.1, .string n.nm.2, v0, v1, v2, v3, v4, v5, v6, .slice A3 n.args.length c3]] X (RetT X S (replT u n x))) := fun x hx X cx hX hx2 => ih x hx X cx _ _ (HSY.out.later hX.size) (by have := Tm.nodes_mem hx; have := t.nodes_args; omega) hx2 (HU.out.below HSY.out hX) (HN.out.below HSY.out hX)
  have HAR : Hid (ArgsAt ((((w.alloc (.cells #[.int .i64 t.kd, .string t.nm.1, .string t.nm.2, x0, x1, x2, x3, x4, x5, x6, .slice A t.args.length c] 35)).alloc (.cells #[.int .i64 u.kd, .string u.nm.1, .string u.nm.2, y0, y1, y2, y3, y4, y5, y6, .slice A2 u.args.length c2] 35)).alloc (.cells #[.int .i64 n.kd, .string n.nm.1, .string n.nm.2, v0, v1, v2, v3, v4, v5, v6, .slice A3 n.args.length c3] 35)).alloc (.cells #[.int .i64 0, .string ⟨#[]⟩, .string ⟨#[]⟩, .int .i64 0, .string ⟨#[]⟩, .string ⟨#[]⟩, .string ⟨#[]⟩, .string ⟨#[]⟩, .string ⟨#[]⟩, .slice none 0 0, .slice none 0 0] 35)) S t.args A c) := ha.below hS hA
  have HA := hI hA
  have hlen : t.args.length ≤ 3000 := by have := t.nodes_args; have := Tm.nodesL_len t.args; omega
  have HLE := hI hlen
  obtain ⟨q, hq⟩ : ∃ q, eqT t u = q := ⟨_, rfl⟩
  rw [hq] at CEQ
  have HQ := hI hq
  unfold vTm
  clear h h' hu hu' hnw hn' hA hS ih ha hn hq
  go_enter Tryz.func40, Tryz.ntmps40
  go_upto_region 1 with fail
  generalize ((((w.alloc (.cells #[.int .i64 t.kd, .string t.nm.1, .string t.nm.2, x0, x1, x2, x3, x4, x5, x6, .slice A t.args.length c] 35)).alloc (.cells #[.int .i64 u.kd, .string u.nm.1, .string u.nm.2, y0, y1, y2, y3, y4, y5, y6, .slice A2 u.args.length c2] 35)).alloc (.cells #[.int .i64 n.kd, .string n.nm.1, .string n.nm.2, v0, v1, v2, v3, v4, v5, v6, .slice A3 n.args.length c3] 35)).alloc (.cells #[.int .i64 0, .string ⟨#[]⟩, .string ⟨#[]⟩, .int .i64 0, .string ⟨#[]⟩, .string ⟨#[]⟩, .string ⟨#[]⟩, .string ⟨#[]⟩, .string ⟨#[]⟩, .slice none 0 0, .slice none 0 0] 35)) = Y at *
  have HG6 : Hid (w.heap.size ≤ w.heap.size + 1 + 1 + 1) := (show _ ≤ _ by omega)
  generalize w.heap.size + 1 + 1 + 1 = g6 at H6 HG6 ⊢
  generalize w.heap.size + 1 + 1 = g5 at H5 ⊢
  generalize w.heap.size + 1 = g4 at H4 ⊢
  obtain ⟨g3, hg3⟩ : ∃ g, w.heap.size = g := ⟨_, rfl⟩
  rw [hg3] at H3 ⊢
  clear hg3
  go_wp2_with (first | ((with_reducible refine loadTb (cs := [.int .i64 t.kd, .string t.nm.1, .string t.nm.2, x0, x1, x2, x3, x4, x5, x6, .slice A t.args.length c]) (.tmp 3) ?_ ?_ ?_ H3.out ?_ ?_); rfl; rfl; rfl; rfl) | ((with_reducible refine loadTb (cs := [.int .i64 u.kd, .string u.nm.1, .string u.nm.2, y0, y1, y2, y3, y4, y5, y6, .slice A2 u.args.length c2]) (.tmp 4) ?_ ?_ ?_ H4.out ?_ ?_); rfl; rfl; rfl; rfl))
  refine CEQ.out.mono ?_
  rintro e w1 ⟨rfl, hb1⟩
  replace H3 := hI (H3.out.keep hb1)
  replace H4 := hI (H4.out.keep hb1)
  replace H5 := hI (H5.out.keep hb1)
  replace H6 := hI (H6.out.keep hb1)
  have HB1 := hI hb1
  have HA1 : Hid (Below w.heap.size w w1) := HA.out.trans (hb1.mono HA.out.size)
  clear hb1 CEQ
  cases q with
  | true =>
   have hN1 : TmAt w1 (Upto w w1 S) n [.int .i64 n.kd, .string n.nm.1, .string n.nm.2, v0, v1, v2, v3, v4, v5, v6, .slice A3 n.args.length c3] := (HN.out.below HSY.out HB1.out).more (fun b hb => .inl hb)
   have HR : Hid (RetT w S (replT u n t) (.returned (vTm [.int .i64 n.kd, .string n.nm.1, .string n.nm.2, v0, v1, v2, v3, v4, v5, v6, .slice A3 n.args.length c3])) (w1.setRow g6 #[.int .i64 n.kd, .string n.nm.1, .string n.nm.2, v0, v1, v2, v3, v4, v5, v6, .slice A3 n.args.length c3])) := (show RetT _ _ _ _ _ by rw [replT_hit HQ.out]; exact ⟨_, rfl, TmAt.boxed hN1 H6.out.nb _, below_setRowO HA1.out HG6.out _⟩)
   clear hN1
   go_wp2_with (first | ((with_reducible refine loadTb (cs := [.int .i64 n.kd, .string n.nm.1, .string n.nm.2, v0, v1, v2, v3, v4, v5, v6, .slice A3 n.args.length c3]) (.tmp 5) ?_ ?_ ?_ H5.out ?_ ?_); rfl; rfl; rfl; rfl) | ((with_reducible refine storeTb (cs := [.int .i64 n.kd, .string n.nm.1, .string n.nm.2, v0, v1, v2, v3, v4, v5, v6, .slice A3 n.args.length c3]) (.tmp 6) (.tmp 12) ?_ ?_ ?_ ?_ H6.out ?_ ?_ ?_ ?_); rfl; rfl; rfl; rfl; rfl; rfl; exact ON.out.2))
   exact retTb rfl rfl (H6.out.set _) rfl HR.out
  | false =>
   have k0 := TB.cell H3.out 0 _ rfl
   by_cases hk : t.kd = 3
   · replace k0 : w1.cell? ⟨g3, 0, none⟩ = some (.int .i64 3) := by rw [← hk]; exact TB.cell H3.out 0 _ rfl
     obtain ⟨L, hL⟩ : ∃ L, t.args.length = L := ⟨_, rfl⟩
     have HL := hI hL
     have hL3 : L ≤ 3000 := by omega
     rw [hL] at hle
     obtain ⟨i0, hi0, hz0, hz1, hz2⟩ := infoT
     have HI0 := hI hi0
     have HZ0 := hI hz0
     have HZ1 := hI hz1
     have HZ2 := hI hz2
     have h0 : Hid (MkT S w1 w1 ((t.args.take 0).map (replT u n)) (.slice none 0 0) []) := MkT.start S w1
     have HK := hI hk
     have HS1 : Hid (In S w1) := HSY.out.later HB1.out.size
     clear hi0 hz0 hz1 hz2 hL hlen hk
     go_wp2_with fail
     go_loopw [7, 8] (fun u9 v9 wr => ∃ (i : Nat) (xs : List (List Value)) (sl : Value), sl = u9 ∧ i ≤ L ∧ v9 = .int .i64 (i : Int) ∧ Hid (MkT S w1 wr ((t.args.take i).map (replT u n)) sl xs)) (fun _ v9 _ => L - (intOf v9).toNat)
     case atStart => exact ⟨0, [], _, rfl, Nat.zero_le _, rfl, h0⟩
     case round =>
      clear h0 k0
      obtain ⟨i, xs, sl, rfl, hiL, rfl, hE⟩ := hrel
      obtain ⟨wo, rfl⟩ : ∃ wo : World, wo = wr := ⟨_, rfl⟩
      have hbel := hE.out.bel
      have hs1 := hbel.size
      have HSO : Hid (In S wo) := HS1.out.later hs1
      have HBO : Hid (Below Y.heap.size Y wo) := HB1.out.trans (hbel.mono HB1.out.size)
      replace H3 := hI (H3.out.keep hbel)
      replace H4 := hI (H4.out.keep hbel)
      replace H5 := hI (H5.out.keep hbel)
      replace H6 := hI (H6.out.keep hbel)
      have HEB := hI hbel
      have HMK := hI hE.out
      rw [HL.out] at H3
      have j10 := TB.cell H3.out 10 _ rfl
      clear hbel hE
      by_cases hlt : i < L
      · have hil : i < t.args.length := by rw [HL.out]; exact hlt
        obtain ⟨ba, oa, cx, rfl, hP⟩ := HAR.out.arg hil
        have hba : ba < Y.heap.size := HSY.out ba hP.1.1
        have hP' := hP.below HSY.out HBO.out
        have htm : t.args[i] ∈ t.args := List.getElem_mem hil
        have HTK : Hid ((t.args.take (i + 1)).map (replT u n) = (t.args.take i).map (replT u n) ++ [replT u n t.args[i]]) := (show _ = _ by rw [List.take_add_one, List.getElem?_eq_getElem hil, List.map_append]; rfl)
        have HLN : Hid (((t.args.take i).map (replT u n)).length = i) := (show _ = _ by simp; omega)
        generalize t.args[i] = x at *
        obtain ⟨z0, z1, z2, z3, z4, z5, z6, A5, c5, rfl, hva, har2, k0, k1, k2, k3, k4, k5, k6, k7, k8, k9, k10⟩ := hP'.cells
        have HX := hI hP'.2.1
        have CALL : Hid (∀ X, Below wo.heap.size wo X → Calls Tryz.prog 40 #[.agg #[.int .i64 x.kd, .string x.nm.1, .string x.nm.2, z0, z1, z2, z3, z4, z5, z6, .slice A5 x.args.length c5], .agg #[.int .i64 u.kd, .string u.nm.1, .string u.nm.2, y0, y1, y2, y3, y4, y5, y6, .slice A2 u.args.length c2], .agg #[.int .i64 n.kd, .string n.nm.1, .string n.nm.2, v0, v1, v2, v3, v4, v5, v6, .slice A3 n.args.length c3]] X (RetT X S (replT u n x))) := fun X hX => IH.out x htm X _ (HBO.out.trans (hX.mono HBO.out.size)) (HX.out.below HSO.out hX)
        have HBA : Hid (ba < wo.heap.size) := Nat.lt_of_lt_of_le hba HBO.out.size
        have K0 := hI k0
        have K1 := hI k1
        have K2 := hI k2
        have K3 := hI k3
        have K4 := hI k4
        have K5 := hI k5
        have K6 := hI k6
        have K7 := hI k7
        have K8 := hI k8
        have K9 := hI k9
        have K10 := hI k10
        clear hP hP' htm hva har2 hba k0 k1 k2 k3 k4 k5 k6 k7 k8 k9 k10 HX IH
        go_wp2_with fail
        refine wp_region_grow (l := _) 10 (by kernel_rfl) (by kernel_rfl) (fun i => [24, 25, 26, 27, 28, 29, 30, 31, 32, 33].getD i 0) (LR [LV (sl), LV (.pointer (some ⟨g3, 3 + 7, none⟩)), LV (.slice (some ⟨ba, oa, none⟩) L c), LV (.int .i64 (i : Int)), LV (.pointer (some ⟨ba, oa + i * 11, none⟩)), LV (.agg #[.int .i64 x.kd, .string x.nm.1, .string x.nm.2, z0, z1, z2, z3, z4, z5, z6, .slice A5 x.args.length c5]), LV (.agg #[.int .i64 u.kd, .string u.nm.1, .string u.nm.2, y0, y1, y2, y3, y4, y5, y6, .slice A2 u.args.length c2]), LV (.agg #[.int .i64 n.kd, .string n.nm.1, .string n.nm.2, v0, v1, v2, v3, v4, v5, v6, .slice A3 n.args.length c3]), LTm wo S (replT u n x), LT1 wo S (replT u n x)]) (LR_mono ⟨mLV _, mLV _, mLV _, mLV _, mLV _, mLV _, mLV _, mLV _, mLTm HSO.out _, mLT1 HSO.out _, trivial⟩) (by
         intro i j hi hj h
         exact inj_getD [24, 25, 26, 27, 28, 29, 30, 31, 32, 33] (by decide) i j hi hj h) (by
         intro i hi
         exact lt_getD 39 [24, 25, 26, 27, 28, 29, 30, 31, 32, 33] (by decide) i hi) ?step ?done
        case step =>
         intro ii hii a w9 v lo hi' hoth hb hw
         have sl3 : a.tmps[3]? = some (.pointer (some ⟨g3, 0, none⟩)) := (hoth 3 (fun j hj => ne_getD 3 _ (by decide) j hj)).trans rfl
         have sl4 : a.tmps[4]? = some (.pointer (some ⟨g4, 0, none⟩)) := (hoth 4 (fun j hj => ne_getD 4 _ (by decide) j hj)).trans rfl
         have sl5 : a.tmps[5]? = some (.pointer (some ⟨g5, 0, none⟩)) := (hoth 5 (fun j hj => ne_getD 5 _ (by decide) j hj)).trans rfl
         have sl7 : a.tmps[7]? = some (sl) := (hoth 7 (fun j hj => ne_getD 7 _ (by decide) j hj)).trans rfl
         have sl8 : a.tmps[8]? = some (.int .i64 (i : Int)) := (hoth 8 (fun j hj => ne_getD 8 _ (by decide) j hj)).trans rfl
         match ii, hii with
         | 0, _ =>
          exact gw_move rfl (wanted_plain rfl) 7 _ rfl sl7 ⟨_, rfl, Below.refl _ _, rfl⟩
         | 1, _ =>
          refine wpOp_step rfl fun K' hK' => ?_
          rw [if_pos (wanted_plain rfl)]
          unfold Oper.wp
          simp only [execOp]
          go_simp
          exact hK' _ _ ⟨_, rfl, Below.refl _ _, rfl⟩
         | 2, _ =>
          obtain ⟨s0, r0, _⟩ := hw 1 (by omega) (by kernel_rfl)
          have e0 : v 1 = .pointer (some ⟨g3, 3 + 7, none⟩) := r0
          rw [e0] at s0
          replace s0 : a.tmps[25]? = some (.pointer (some ⟨g3, 3 + 7, none⟩)) := s0
          have HBB := H3.out.keep hb
          have ck0 : w9.cell? ⟨g3, 0, none⟩ = _ := TB.cell HBB 0 _ rfl
          have ck1 : w9.cell? ⟨g3, 1, none⟩ = _ := TB.cell HBB 1 _ rfl
          have ck2 : w9.cell? ⟨g3, 2, none⟩ = _ := TB.cell HBB 2 _ rfl
          have ck3 : w9.cell? ⟨g3, 3, none⟩ = _ := TB.cell HBB 3 _ rfl
          have ck4 : w9.cell? ⟨g3, 4, none⟩ = _ := TB.cell HBB 4 _ rfl
          have ck5 : w9.cell? ⟨g3, 5, none⟩ = _ := TB.cell HBB 5 _ rfl
          have ck6 : w9.cell? ⟨g3, 6, none⟩ = _ := TB.cell HBB 6 _ rfl
          have ck7 : w9.cell? ⟨g3, 7, none⟩ = _ := TB.cell HBB 7 _ rfl
          have ck8 : w9.cell? ⟨g3, 8, none⟩ = _ := TB.cell HBB 8 _ rfl
          have ck9 : w9.cell? ⟨g3, 9, none⟩ = _ := TB.cell HBB 9 _ rfl
          have ck10 : w9.cell? ⟨g3, 10, none⟩ = _ := TB.cell HBB 10 _ rfl
          refine wpOp_step rfl fun K' hK' => ?_
          rw [if_pos (wanted_plain rfl)]
          unfold Oper.wp
          simp only [execOp]
          go_simp
          exact hK' _ _ ⟨_, rfl, Below.refl _ _, rfl⟩
         | 3, _ =>
          exact gw_move rfl (wanted_plain rfl) 8 _ rfl sl8 ⟨_, rfl, Below.refl _ _, rfl⟩
         | 4, _ =>
          obtain ⟨s0, r0, _⟩ := hw 2 (by omega) (by kernel_rfl)
          have e0 : v 2 = .slice (some ⟨ba, oa, none⟩) L c := r0
          rw [e0] at s0
          replace s0 : a.tmps[26]? = some (.slice (some ⟨ba, oa, none⟩) L c) := s0
          obtain ⟨s1, r1, _⟩ := hw 3 (by omega) (by kernel_rfl)
          have e1 : v 3 = .int .i64 (i : Int) := r1
          rw [e1] at s1
          replace s1 : a.tmps[27]? = some (.int .i64 (i : Int)) := s1
          refine wpOp_step rfl fun K' hK' => ?_
          rw [if_pos (wanted_plain rfl)]
          unfold Oper.wp
          simp only [execOp]
          go_simp
          exact hK' _ _ ⟨_, rfl, Below.refl _ _, rfl⟩
         | 5, _ =>
          obtain ⟨s0, r0, _⟩ := hw 4 (by omega) (by kernel_rfl)
          have e0 : v 4 = .pointer (some ⟨ba, oa + i * 11, none⟩) := r0
          rw [e0] at s0
          replace s0 : a.tmps[28]? = some (.pointer (some ⟨ba, oa + i * 11, none⟩)) := s0
          have ck0 := (hb.cell (p := ⟨ba, oa + i * 11, none⟩) HBA.out).trans K0.out
          have ck1 := (hb.cell (p := ⟨ba, oa + i * 11 + 1, none⟩) HBA.out).trans K1.out
          have ck2 := (hb.cell (p := ⟨ba, oa + i * 11 + 2, none⟩) HBA.out).trans K2.out
          have ck3 := (hb.cell (p := ⟨ba, oa + i * 11 + 3, none⟩) HBA.out).trans K3.out
          have ck4 := (hb.cell (p := ⟨ba, oa + i * 11 + 4, none⟩) HBA.out).trans K4.out
          have ck5 := (hb.cell (p := ⟨ba, oa + i * 11 + 5, none⟩) HBA.out).trans K5.out
          have ck6 := (hb.cell (p := ⟨ba, oa + i * 11 + 6, none⟩) HBA.out).trans K6.out
          have ck7 := (hb.cell (p := ⟨ba, oa + i * 11 + 7, none⟩) HBA.out).trans K7.out
          have ck8 := (hb.cell (p := ⟨ba, oa + i * 11 + 8, none⟩) HBA.out).trans K8.out
          have ck9 := (hb.cell (p := ⟨ba, oa + i * 11 + 9, none⟩) HBA.out).trans K9.out
          have ck10 := (hb.cell (p := ⟨ba, oa + i * 11 + 10, none⟩) HBA.out).trans K10.out
          refine wpOp_step rfl fun K' hK' => ?_
          rw [if_pos (wanted_plain rfl)]
          unfold Oper.wp
          simp only [execOp]
          go_simp
          exact hK' _ _ ⟨_, rfl, Below.refl _ _, rfl⟩
         | 6, _ =>
          have HBB := H4.out.keep hb
          have ck0 : w9.cell? ⟨g4, 0, none⟩ = _ := TB.cell HBB 0 _ rfl
          have ck1 : w9.cell? ⟨g4, 1, none⟩ = _ := TB.cell HBB 1 _ rfl
          have ck2 : w9.cell? ⟨g4, 2, none⟩ = _ := TB.cell HBB 2 _ rfl
          have ck3 : w9.cell? ⟨g4, 3, none⟩ = _ := TB.cell HBB 3 _ rfl
          have ck4 : w9.cell? ⟨g4, 4, none⟩ = _ := TB.cell HBB 4 _ rfl
          have ck5 : w9.cell? ⟨g4, 5, none⟩ = _ := TB.cell HBB 5 _ rfl
          have ck6 : w9.cell? ⟨g4, 6, none⟩ = _ := TB.cell HBB 6 _ rfl
          have ck7 : w9.cell? ⟨g4, 7, none⟩ = _ := TB.cell HBB 7 _ rfl
          have ck8 : w9.cell? ⟨g4, 8, none⟩ = _ := TB.cell HBB 8 _ rfl
          have ck9 : w9.cell? ⟨g4, 9, none⟩ = _ := TB.cell HBB 9 _ rfl
          have ck10 : w9.cell? ⟨g4, 10, none⟩ = _ := TB.cell HBB 10 _ rfl
          refine wpOp_step rfl fun K' hK' => ?_
          rw [if_pos (wanted_plain rfl)]
          unfold Oper.wp
          simp only [execOp]
          go_simp
          exact hK' _ _ ⟨_, rfl, Below.refl _ _, rfl⟩
         | 7, _ =>
          have HBB := H5.out.keep hb
          have ck0 : w9.cell? ⟨g5, 0, none⟩ = _ := TB.cell HBB 0 _ rfl
          have ck1 : w9.cell? ⟨g5, 1, none⟩ = _ := TB.cell HBB 1 _ rfl
          have ck2 : w9.cell? ⟨g5, 2, none⟩ = _ := TB.cell HBB 2 _ rfl
          have ck3 : w9.cell? ⟨g5, 3, none⟩ = _ := TB.cell HBB 3 _ rfl
          have ck4 : w9.cell? ⟨g5, 4, none⟩ = _ := TB.cell HBB 4 _ rfl
          have ck5 : w9.cell? ⟨g5, 5, none⟩ = _ := TB.cell HBB 5 _ rfl
          have ck6 : w9.cell? ⟨g5, 6, none⟩ = _ := TB.cell HBB 6 _ rfl
          have ck7 : w9.cell? ⟨g5, 7, none⟩ = _ := TB.cell HBB 7 _ rfl
          have ck8 : w9.cell? ⟨g5, 8, none⟩ = _ := TB.cell HBB 8 _ rfl
          have ck9 : w9.cell? ⟨g5, 9, none⟩ = _ := TB.cell HBB 9 _ rfl
          have ck10 : w9.cell? ⟨g5, 10, none⟩ = _ := TB.cell HBB 10 _ rfl
          refine wpOp_step rfl fun K' hK' => ?_
          rw [if_pos (wanted_plain rfl)]
          unfold Oper.wp
          simp only [execOp]
          go_simp
          exact hK' _ _ ⟨_, rfl, Below.refl _ _, rfl⟩
         | 8, _ =>
          obtain ⟨s0, r0, _⟩ := hw 5 (by omega) (by kernel_rfl)
          have e0 : v 5 = .agg #[.int .i64 x.kd, .string x.nm.1, .string x.nm.2, z0, z1, z2, z3, z4, z5, z6, .slice A5 x.args.length c5] := r0
          rw [e0] at s0
          replace s0 : a.tmps[29]? = some (.agg #[.int .i64 x.kd, .string x.nm.1, .string x.nm.2, z0, z1, z2, z3, z4, z5, z6, .slice A5 x.args.length c5]) := s0
          obtain ⟨s1, r1, _⟩ := hw 6 (by omega) (by kernel_rfl)
          have e1 : v 6 = .agg #[.int .i64 u.kd, .string u.nm.1, .string u.nm.2, y0, y1, y2, y3, y4, y5, y6, .slice A2 u.args.length c2] := r1
          rw [e1] at s1
          replace s1 : a.tmps[30]? = some (.agg #[.int .i64 u.kd, .string u.nm.1, .string u.nm.2, y0, y1, y2, y3, y4, y5, y6, .slice A2 u.args.length c2]) := s1
          obtain ⟨s2, r2, _⟩ := hw 7 (by omega) (by kernel_rfl)
          have e2 : v 7 = .agg #[.int .i64 n.kd, .string n.nm.1, .string n.nm.2, v0, v1, v2, v3, v4, v5, v6, .slice A3 n.args.length c3] := r2
          rw [e2] at s2
          replace s2 : a.tmps[31]? = some (.agg #[.int .i64 n.kd, .string n.nm.1, .string n.nm.2, v0, v1, v2, v3, v4, v5, v6, .slice A3 n.args.length c3]) := s2
          refine gw_ttt rfl (wanted_plain rfl) 40 29 30 31 _ _ _ _ rfl (fun v u x w => by go_simp) s0 s1 s2 ?_
          with_reducible refine (CALL.out w9 hb).mono ?_
          rintro e w3 ⟨cs3, rfl, h3, hb3⟩
          exact ⟨_, rfl, _, rfl, hb3, Nat.le_trans hb.size hb3.size, cs3, rfl, h3.more (fun b hb0 => up3 (Below.refl _ wo) hb b hb0)⟩
         | 9, _ =>
          obtain ⟨s0, r0, b0⟩ := hw 8 (by omega) (by kernel_rfl)
          obtain ⟨hz0, cs0, e0, ht0⟩ := r0
          rw [e0] at s0
          obtain ⟨tt, htt⟩ : ∃ tt, replT u n x = tt := ⟨_, rfl⟩
          rw [htt] at ht0 ⊢
          obtain ⟨u0, u1, u2, u3, u4, u5, u6, A6, c6, ec, _, _⟩ := ht0.eleven
          subst ec
          unfold vTm at s0
          replace s0 : a.tmps[32]? = some (.agg #[.int .i64 tt.kd, .string tt.nm.1, .string tt.nm.2, u0, u1, u2, u3, u4, u5, u6, .slice A6 tt.args.length c6]) := s0
          refine wpOp_step rfl fun K' hK' => ?_
          rw [if_pos (wanted_plain rfl)]
          unfold Oper.wp
          simp only [execOp]
          go_simp
          exact hK' _ _ ⟨_, rfl, below_alT _ _, Nat.le_trans hb.size (below_alT _ _).size, _, rfl, heap_alloc_new _ _, by simp, (ht0.below (fun b hb' => upto_lt HSO.out hb.size b hb') (below_alT _ _)).more (fun b hb' => upto_more (below_alT _ _).size b hb')⟩
        case done =>
         intro a w9 v lo hi' hdef hsz hoth hb hj hap
         obtain ⟨_, hv0, _, _⟩ := hj 0 (by omega)
         obtain ⟨_, ⟨hz9, cs3, hv9, hrow, hlt9, h3⟩, hlo9, hhi9⟩ := hj 9 (by omega)
         have ha := eq_puts hdef hsz hoth (fun i hi => (hj i hi).1)
         subst ha
         clear hj hoth hdef hsz hap
         change v 0 = _ at hv0
         simp only [puts, List.getD_cons_zero, List.getD_cons_succ, hv0, hv9]
         generalize v 1 = v1
         generalize v 2 = v2
         generalize v 3 = v3
         generalize v 4 = v4
         generalize v 5 = v5
         generalize v 6 = v6
         generalize v 7 = v7
         generalize v 8 = v8
         clear hv0 hv9
         simp only [Act.put, List.setIfInBounds_toArray, List.set_cons_zero, List.set_cons_succ]
         show wpList _ _ _ [_, _] _ _
         have O3 := hI h3.o11
         have own3 := hI (HMK.out.below hb).own
         rw [HLN.out] at own3
         have HSTEP : Hid (∀ v' w4, w4.ownsRow w1.heap.size 35 11 v' (i + 1) (xs.flatten ++ cs3) → w9.grownBy w4 sl.ownBlock → (v'.ownBlock = sl.ownBlock ∨ v'.ownBlock = some w9.heap.size) → MkT S w1 w4 ((t.args.take (i + 1)).map (replT u n)) v' (xs ++ [cs3])) :=
          fun v' w4 h4 hg hat => by rw [HTK.out]; exact HMK.out.step2 HS1.out hb h3 (by rw [HLN.out]; exact h4) hg hat
         have hnews : ∀ j u, cs3[j]? = some u → w9.cell? ((⟨lo 9, 0, none⟩ : Addr).add j) = some u := news_at hrow
         have hs3 : w1.heap.size ≤ w9.heap.size := by have := hb.size; omega
         obtain ⟨tt, htt⟩ : ∃ tt, replT u n x = tt := ⟨_, rfl⟩
         rw [htt] at h3
         obtain ⟨u0, u1, u2, u3, u4, u5, u6, A7, c7, e7, _, _⟩ := h3.eleven
         subst e7
         have HNEWS := hI hnews
         generalize lo 9 = qq at *
         clear h3 hb CALL hnews HMK htt j10 hrow hlt9 hz9 HTK
         go_wp2_with (at_builtin; refine wpList_append_own_at _ rfl (.tmp 24) (.tmp 33) _ rfl w1.heap.size 35 i0 _ 11 176 Tryz.underlying30 HI0.out HZ0.out HZ1.out HZ2.out rfl (by omega) sl i xs.flatten rfl own3.out ⟨qq, 0, none⟩ 1 1 [.int .i64 tt.kd, .string tt.nm.1, .string tt.nm.2, u0, u1, u2, u3, u4, u5, u6, .slice A7 tt.args.length c7] rfl rfl HNEWS.out O3.out.2 (by simp only [maxLen]; omega) (by omega) hs3 ?_; intro v4 w4 hown4 hg4 hnil4 hat4; have hst := hI (HSTEP.out v4 w4 hown4 hg4 hat4); clear hown4 hg4 hnil4 hat4)
         go_roundw
         case rel => exact ⟨i + 1, _, _, rfl, by omega, by go_num, hst⟩
         case measure => simp [intOf]; omega
      · have hiL2 : i = L := by omega
        have hn2 : ¬ (i : Int) < L := by omega
        have hM : MkT S w1 wo (t.args.map (replT u n)) sl xs := by
         have h := HMK.out
         rw [hiL2, ← HL.out, List.take_length] at h
         exact h
        have j1 := TB.cell H3.out 1 _ rfl
        have j2 := TB.cell H3.out 2 _ rfl
        have AC : Hid (Calls Tryz.prog 23 #[.agg #[.string t.nm.1, .string t.nm.2], sl] wo (RetT wo (Upto w1 wo S) (.app t.nm (t.args.map (replT u n))))) := appR t.nm (t.args.map (replT u n)) sl wo (Upto w1 wo S) (HS1.out.upto hs1) hM.slice
        have HFT : Hid (replT u n t = .app t.nm (t.args.map (replT u n))) := replT_app HQ.out HK.out
        clear hM hiL2 hlt HMK IH
        go_wp2_with fail
        refine AC.out.mono ?_
        rintro e w5 ⟨cs5, rfl, h5, hb5⟩
        have H6' := hI (H6.out.keep hb5)
        have O5 := hI h5.o11
        have hA5 : Below w.heap.size w w5 := (HA1.out.trans (HEB.out.mono HA1.out.size)).trans (hb5.mono (HA1.out.trans (HEB.out.mono HA1.out.size)).size)
        have h5' : TmAt w5 (Upto w w5 S) (replT u n t) cs5 := by
         rw [HFT.out]
         exact h5.more (fun b hb => up3 HA1.out (Below.refl _ _) b (upto_two hs1 hb5.size b hb))
        have HR : Hid (RetT w S (replT u n t) (.returned (vTm cs5)) (w5.setRow g6 cs5.toArray)) := ⟨_, rfl, TmAt.boxed h5' H6'.out.nb _, below_setRowO hA5 HG6.out _⟩
        clear h5 h5' hb5 hA5 AC j1 j2 j10
        go_wp2_with ((with_reducible refine storeTb (cs := cs5) (.tmp 6) (.tmp 38) ?_ ?_ ?_ ?_ H6'.out ?_ ?_ ?_ ?_); rfl; rfl; rfl; rfl; rfl; exact O5.out.1; exact O5.out.2)
        exact retTb rfl rfl (H6'.out.set _) O5.out.1 HR.out
   · have hT1 : TmAt w1 (Upto w w1 S) t [.int .i64 t.kd, .string t.nm.1, .string t.nm.2, x0, x1, x2, x3, x4, x5, x6, .slice A t.args.length c] := (HT.out.below HSY.out HB1.out).more (fun b hb => .inl hb)
     have HR : Hid (RetT w S (replT u n t) (.returned (vTm [.int .i64 t.kd, .string t.nm.1, .string t.nm.2, x0, x1, x2, x3, x4, x5, x6, .slice A t.args.length c])) (w1.setRow g6 #[.int .i64 t.kd, .string t.nm.1, .string t.nm.2, x0, x1, x2, x3, x4, x5, x6, .slice A t.args.length c])) := (show RetT _ _ _ _ _ by rw [replT_flat HQ.out hk]; exact ⟨_, rfl, TmAt.boxed hT1 H6.out.nb _, below_setRowO HA1.out HG6.out _⟩)
     have hkn : (t.kd != 3) = true := by rw [bne_iff_ne]; exact hk
     clear hT1
     go_wp2_with (first | ((with_reducible refine loadTb (cs := [.int .i64 t.kd, .string t.nm.1, .string t.nm.2, x0, x1, x2, x3, x4, x5, x6, .slice A t.args.length c]) (.tmp 3) ?_ ?_ ?_ H3.out ?_ ?_); rfl; rfl; rfl; rfl) | ((with_reducible refine storeTb (cs := [.int .i64 t.kd, .string t.nm.1, .string t.nm.2, x0, x1, x2, x3, x4, x5, x6, .slice A t.args.length c]) (.tmp 6) (.tmp 16) ?_ ?_ ?_ ?_ H6.out ?_ ?_ ?_ ?_); rfl; rfl; rfl; rfl; rfl; rfl; exact OT.out.2))
     exact retTb rfl rfl (H6.out.set _) rfl HR.out
mutual
def chR (u : Tm) : Tm → Bool
 | .var s => eqT u (.var s)
 | .con o => eqT u (.con o)
 | .app s l => eqT u (.app s l) || chRs u l
def chRs (u : Tm) : List Tm → Bool
 | [] => false
 | t :: l => chR u t || chRs u l
end
theorem chRs_any (u : Tm) : ∀ l, chRs u l = l.any (chR u)
 | [] => by unfold chRs; rfl
 | t :: l => by unfold chRs; rw [chRs_any u l]; rfl
theorem chR_hit {u t : Tm} (h : eqT u t = true) : chR u t = true := by
 cases t <;> (unfold chR; rw [h]) <;> rfl
mutual
theorem rep_same (u n : Tm) : ∀ t, chR u t = false → replT u n t = t
 | .var s, h => by
  unfold chR at h
  unfold replT; rw [eqT_comm, h]; rfl
 | .con o, h => by
  unfold chR at h
  unfold replT; rw [eqT_comm, h]; rfl
 | .app s l, h => by
  unfold chR at h
  rw [Bool.or_eq_false_iff] at h
  unfold replT; rw [eqT_comm, h.1, reps_same u n l h.2]; rfl
theorem reps_same (u n : Tm) : ∀ l, chRs u l = false → replTs u n l = l
 | [], _ => by unfold replTs; rfl
 | t :: l, h => by
  unfold chRs at h
  rw [Bool.or_eq_false_iff] at h
  unfold replTs
  rw [rep_same u n t h.1, reps_same u n l h.2]
end
theorem rep_ptM (u n t : Tm) (h : eqT u t = false) : replT u n t = ptM (replT u n) t ∧ chR u t = chM (chR u) t := by
 cases t with
 | var s => exact ⟨by unfold replT ptM; rw [eqT_comm, h]; rfl, by unfold chR chM; exact h⟩
 | con o => exact ⟨by unfold replT ptM; rw [eqT_comm, h]; rfl, by unfold chR chM; exact h⟩
 | app f l => exact ⟨by unfold replT ptM; rw [eqT_comm, h, replTs_map]; rfl, by unfold chR chM; rw [h, chRs_any]; rfl⟩
theorem arr13' (a b c d : Value) : #[a] ++ #[b, c, d] = #[a, b, c, d] := rfl
structure RepC (Y : World) (S : Nat → Prop) (ge Bu Bn Be : Nat) (u n : Tm) (cu cn : List Value) : Prop where
 ed : EdAt Y ge 82 #[.pointer (some ⟨Bu, 0, none⟩), .pointer (some ⟨Bn, 0, none⟩), .pointer (some ⟨Be, 0, none⟩)]
 ce : Y.cell? ⟨Be, 0, none⟩ = some (.pointer (some ⟨ge, 0, none⟩))
 bu : TB Y Bu cu
 bn : TB Y Bn cn
 hu : TmAt Y S u cu
 hn : TmAt Y S n cn
 hS : In S Y
theorem RepC.keep {Y Y' : World} {S : Nat → Prop} {ge Bu Bn Be : Nat} {u n : Tm} {cu cn : List Value} (h : RepC Y S ge Bu Bn Be u n cu cn) (hb : Below Y.heap.size Y Y') : RepC Y' S ge Bu Bn Be u n cu cn :=
 ⟨h.ed.keep hb, (hb.cell (p := ⟨Be, 0, none⟩) (World.block_lt_of_cell? Y _ h.ce)).trans h.ce, h.bu.keep hb, h.bn.keep hb, h.hu.below h.hS hb, h.hn.below h.hS hb, h.hS.later hb.size⟩
theorem repOne (u n : Tm) (d : Nat) (hd : d ≤ 1000) (hun : u.nodes ≤ 3000) (hub : u.bd d) (Bu Bn Be ge : Nat) (S : Nat → Prop) (t : Tm) (htb : t.bd d) (W : World) (cu cn : List Value) (C : RepC W S ge Bu Bn Be u n cu cn) (b k : Nat) (cs : List Value) (hQ : TmQ W S t b k cs)
 (hp : eqT u t = false → ∀ W', Below W.heap.size W W' → Calls Tryz.prog 77 #[.pointer (some ⟨ge, 0, none⟩), .pointer (some ⟨b, k, none⟩)] W' (RetTB W' S (replT u n t) (chR u t))) :
 Calls Tryz.prog 82 #[.pointer (some ⟨b, k, none⟩), .pointer (some ⟨Bu, 0, none⟩), .pointer (some ⟨Bn, 0, none⟩), .pointer (some ⟨Be, 0, none⟩)] W (RetTB W S (replT u n t) (chR u t)) := by
 obtain ⟨X, hX⟩ : ∃ X, replT u n t = X := ⟨_, rfl⟩
 obtain ⟨r, hr⟩ : ∃ r, chR u t = r := ⟨_, rfl⟩
 rw [hX, hr] at hp ⊢
 have HX := hI hX
 have HR := hI hr
 clear hX hr
 have hA := below_alT W (.cells #[.int .i64 0, .string ⟨#[]⟩, .string ⟨#[]⟩, .int .i64 0, .string ⟨#[]⟩, .string ⟨#[]⟩, .string ⟨#[]⟩, .string ⟨#[]⟩, .string ⟨#[]⟩, .slice none 0 0, .slice none 0 0] 35)
 have C2 := C.keep hA
 have hQ2 := hQ.below C.hS hA
 have B4 : Hid (TB (W.alloc (.cells #[.int .i64 0, .string ⟨#[]⟩, .string ⟨#[]⟩, .int .i64 0, .string ⟨#[]⟩, .string ⟨#[]⟩, .string ⟨#[]⟩, .string ⟨#[]⟩, .string ⟨#[]⟩, .slice none 0 0, .slice none 0 0] 35)) W.heap.size zT) := heap_alloc_new W _
 have hIn : ∀ b, S b → Has (W.alloc (.cells #[.int .i64 0, .string ⟨#[]⟩, .string ⟨#[]⟩, .int .i64 0, .string ⟨#[]⟩, .string ⟨#[]⟩, .string ⟨#[]⟩, .string ⟨#[]⟩, .string ⟨#[]⟩, .slice none 0 0, .slice none 0 0] 35)) b := fun b hb => C2.hS b hb
 have AEQ : Hid (Calls Tryz.prog 81 #[.pointer (some ⟨Bu, 0, none⟩), .pointer (some ⟨b, k, none⟩)] (W.alloc (.cells #[.int .i64 0, .string ⟨#[]⟩, .string ⟨#[]⟩, .int .i64 0, .string ⟨#[]⟩, .string ⟨#[]⟩, .string ⟨#[]⟩, .string ⟨#[]⟩, .string ⟨#[]⟩, .slice none 0 0, .slice none 0 0] 35)) (RetB (W.alloc (.cells #[.int .i64 0, .string ⟨#[]⟩, .string ⟨#[]⟩, .int .i64 0, .string ⟨#[]⟩, .string ⟨#[]⟩, .string ⟨#[]⟩, .string ⟨#[]⟩, .string ⟨#[]⟩, .slice none 0 0, .slice none 0 0] 35)) (eqT u t))) := areEqualT d hd u t Bu 0 b k cu cs (W.alloc (.cells #[.int .i64 0, .string ⟨#[]⟩, .string ⟨#[]⟩, .int .i64 0, .string ⟨#[]⟩, .string ⟨#[]⟩, .string ⟨#[]⟩, .string ⟨#[]⟩, .string ⟨#[]⟩, .slice none 0 0, .slice none 0 0] 35)) (Has (W.alloc (.cells #[.int .i64 0, .string ⟨#[]⟩, .string ⟨#[]⟩, .int .i64 0, .string ⟨#[]⟩, .string ⟨#[]⟩, .string ⟨#[]⟩, .string ⟨#[]⟩, .string ⟨#[]⟩, .slice none 0 0, .slice none 0 0] 35))) (In.has _) (TB.p C2.bu (C2.hu.more hIn) C2.bu.lt) (hQ2.p C2.hS) hub htb hun
 have HC := hI C2
 have HP : Hid (eqT u t = false → ∀ W', Below (W.alloc (.cells #[.int .i64 0, .string ⟨#[]⟩, .string ⟨#[]⟩, .int .i64 0, .string ⟨#[]⟩, .string ⟨#[]⟩, .string ⟨#[]⟩, .string ⟨#[]⟩, .string ⟨#[]⟩, .slice none 0 0, .slice none 0 0] 35)).heap.size (W.alloc (.cells #[.int .i64 0, .string ⟨#[]⟩, .string ⟨#[]⟩, .int .i64 0, .string ⟨#[]⟩, .string ⟨#[]⟩, .string ⟨#[]⟩, .string ⟨#[]⟩, .string ⟨#[]⟩, .slice none 0 0, .slice none 0 0] 35)) W' → Calls Tryz.prog 77 #[.pointer (some ⟨ge, 0, none⟩), .pointer (some ⟨b, k, none⟩)] W' (RetTB W' S X r)) := fun h W' hw => hp h W' (hA.trans (hw.mono hA.size))
 have HA := hI hA
 have HS := hI C.hS
 obtain ⟨q, hq⟩ : ∃ q, eqT u t = q := ⟨_, rfl⟩
 have HQ := hI hq
 rw [hq] at AEQ
 clear C C2 hQ hQ2 hA hIn hp hq
 go_enter Tryz.func82, Tryz.ntmps82
 go_wp2_with fail
 generalize (W.alloc (.cells #[.int .i64 0, .string ⟨#[]⟩, .string ⟨#[]⟩, .int .i64 0, .string ⟨#[]⟩, .string ⟨#[]⟩, .string ⟨#[]⟩, .string ⟨#[]⟩, .string ⟨#[]⟩, .slice none 0 0, .slice none 0 0] 35)) = Y at *
 refine AEQ.out.mono ?_
 rintro e w2 ⟨rfl, hb2⟩
 have HC2 := hI (HC.out.keep hb2)
 have HB2 := hI (B4.out.keep hb2)
 have HA2 := hI (HA.out.trans (hb2.mono HA.out.size))
 have HW2 := hI hb2
 clear hb2 AEQ HC B4
 cases q with
 | true =>
  have e1 : X = n := by rw [← HX.out]; exact replT_hit (by rw [eqT_comm]; exact HQ.out)
  have e2 : r = true := by rw [← HR.out]; exact chR_hit HQ.out
  subst e2
  have hn2 := HC2.out.hn
  have BN := hI HC2.out.bn
  have ON := hI hn2.o11
  have HN : Hid (TmAt w2 (Upto W w2 S) X cn) := (show TmAt _ _ _ _ by rw [e1]; exact hn2.more (fun b hb => .inl hb))
  obtain ⟨v0, v1, v2, v3, v4, v5, v6, A3, c3, rfl, _, _⟩ := hn2.eleven
  clear e1 HP hn2
  go_wp2_with (first | ((with_reducible refine loadTb (cs := [.int .i64 n.kd, .string n.nm.1, .string n.nm.2, v0, v1, v2, v3, v4, v5, v6, .slice A3 n.args.length c3]) (.tmp 2) ?_ ?_ ?_ BN.out ?_ ?_); rfl; rfl; rfl; rfl) | ((with_reducible refine storeTb (cs := [.int .i64 n.kd, .string n.nm.1, .string n.nm.2, v0, v1, v2, v3, v4, v5, v6, .slice A3 n.args.length c3]) (.tmp 5) (.tmp 9) ?_ ?_ ?_ ?_ HB2.out ?_ ?_ ?_ ?_); rfl; rfl; rfl; rfl; rfl; rfl; exact ON.out.2))
  exact retTbx rfl rfl rfl (HB2.out.set _) rfl (RetTB.mk (below_setRowO HA2.out (Nat.le_refl _) _) (TmAt.boxed HN.out HB2.out.nb _))
 | false =>
  have PC := hI (HP.out HQ.out w2 HW2.out)
  have ce := HC2.out.ce
  clear HP
  go_wp2_with fail
  refine PC.out.mono ?_
  rintro e w3 ⟨cs3, rfl, h3, hb3⟩
  have O3 := hI h3.o11
  have HB := hI (HB2.out.keep hb3)
  have H3 : Hid (TmAt w3 (Upto W w3 S) X cs3) := h3.more fun q hq => up3 HA2.out (Below.refl _ _) q hq
  have HW := hI (HA2.out.trans (hb3.mono HA2.out.size))
  clear h3 hb3 ce PC
  go_wp2_with ((with_reducible refine storeTb (cs := cs3) (.tmp 5) (.tmp 13) ?_ ?_ ?_ ?_ HB.out ?_ ?_ ?_ ?_); rfl; rfl; rfl; rfl; rfl; exact O3.out.1; exact O3.out.2)
  exact retTbx rfl rfl rfl (HB.out.set _) O3.out.1 (RetTB.mk (below_setRowO HW.out (Nat.le_refl _) _) (TmAt.boxed H3.out HB.out.nb _))
theorem rep_hcf (Bu Bn Be : Nat) (v : Value) (W : World) : (callFunc 82 (#[v] ++ #[.pointer (some ⟨Bu, 0, none⟩), .pointer (some ⟨Bn, 0, none⟩), .pointer (some ⟨Be, 0, none⟩)])).run Tryz.prog W = .ok (.enter 82 (#[v] ++ #[.pointer (some ⟨Bu, 0, none⟩), .pointer (some ⟨Bn, 0, none⟩), .pointer (some ⟨Be, 0, none⟩)])) W := by
 rw [arr13']
 go_simp
theorem repC (u n : Tm) (d : Nat) (hd : d ≤ 1000) (hun : u.nodes ≤ 3000) (hub : u.bd d) (Bu Bn Be ge : Nat) (S : Nat → Prop) (cu cn : List Value) : ∀ (t : Tm) (W : World) (b k : Nat) (cs : List Value), RepC W S ge Bu Bn Be u n cu cn → t.nodes ≤ 3000 → t.bd d → TmQ W S t b k cs →
 Calls Tryz.prog 82 (#[.pointer (some ⟨b, k, none⟩)] ++ #[.pointer (some ⟨Bu, 0, none⟩), .pointer (some ⟨Bn, 0, none⟩), .pointer (some ⟨Be, 0, none⟩)]) W (RetTB W S (replT u n t) (chR u t)) := by
 intro t
 induction t using Tm.indA with
 | h t ih =>
  intro W b k cs C hn hb hQ
  rw [arr13']
  refine repOne u n d hd hun hub Bu Bn Be ge S t hb W cu cn C b k cs hQ fun he W' hw => ?_
  have e := rep_ptM u n t he
  rw [e.1, e.2]
  exact partsE _ _ (replT u n) (chR u) t b k ge cs W' S (C.hS.later hw.size) (C.ed.keep hw) (hQ.below C.hS hw) hn (rep_hcf Bu Bn Be) (fun x hx W2 b2 k2 cs2 hw2 hq2 => ih x hx W2 b2 k2 cs2 ((C.keep hw).keep hw2) (by have := Tm.nodes_mem hx; have := t.nodes_args; omega) (Tm.bdL_mem (Tm.bd_args hb) hx) hq2) (fun x _ h => rep_same u n x h)
theorem replaceP (u n : Tm) (d : Nat) (hd : d ≤ 1000) (hun : u.nodes ≤ 3000) (hub : u.bd d) (t : Tm) (cs cu cn : List Value) (w : World) (S : Nat → Prop) (hS : In S w) (h : TmAt w S t cs) (hu : TmAt w S u cu) (hnm : TmAt w S n cn) (hn : t.nodes ≤ 3000) (htb : t.bd d) :
 Calls Tryz.prog 37 #[vTm cs, vTm cu, vTm cn] w (RetT w S (replT u n t)) := by
 have h1 := h
 have h2 := hu
 have h3 := hnm
 obtain ⟨x0, x1, x2, x3, x4, x5, x6, A, c, rfl, _, _⟩ := h1.eleven
 obtain ⟨y0, y1, y2, y3, y4, y5, y6, A2, c2, rfl, _, _⟩ := h2.eleven
 obtain ⟨v0, v1, v2, v3, v4, v5, v6, A3, c3, rfl, _, _⟩ := h3.eleven
 have hA6 : Below w.heap.size w ((((((w.alloc (.cells #[.int .i64 t.kd, .string t.nm.1, .string t.nm.2, x0, x1, x2, x3, x4, x5, x6, .slice A t.args.length c] 35)).alloc (.cells #[.int .i64 u.kd, .string u.nm.1, .string u.nm.2, y0, y1, y2, y3, y4, y5, y6, .slice A2 u.args.length c2] 35)).alloc (.cells #[.int .i64 n.kd, .string n.nm.1, .string n.nm.2, v0, v1, v2, v3, v4, v5, v6, .slice A3 n.args.length c3] 35)).alloc (.cells #[.int .i64 0, .string ⟨#[]⟩, .string ⟨#[]⟩, .int .i64 0, .string ⟨#[]⟩, .string ⟨#[]⟩, .string ⟨#[]⟩, .string ⟨#[]⟩, .string ⟨#[]⟩, .slice none 0 0, .slice none 0 0] 35)).alloc (.cells #[.nilFunc, .pointer none] 99)).alloc (.cells #[.pointer (some ⟨w.heap.size + 1 + 1 + 1 + 1, 0, none⟩)] 95)) := Below.alloc (Below.alloc (Below.alloc (Below.alloc (Below.alloc (Below.alloc (Below.refl _ _) (Nat.le_refl _) _) (by simp) _) (by simp <;> omega) _) (by simp <;> omega) _) (by simp <;> omega) _) (by simp <;> omega) _
 have E6 : ((((((w.alloc (.cells #[.int .i64 t.kd, .string t.nm.1, .string t.nm.2, x0, x1, x2, x3, x4, x5, x6, .slice A t.args.length c] 35)).alloc (.cells #[.int .i64 u.kd, .string u.nm.1, .string u.nm.2, y0, y1, y2, y3, y4, y5, y6, .slice A2 u.args.length c2] 35)).alloc (.cells #[.int .i64 n.kd, .string n.nm.1, .string n.nm.2, v0, v1, v2, v3, v4, v5, v6, .slice A3 n.args.length c3] 35)).alloc (.cells #[.int .i64 0, .string ⟨#[]⟩, .string ⟨#[]⟩, .int .i64 0, .string ⟨#[]⟩, .string ⟨#[]⟩, .string ⟨#[]⟩, .string ⟨#[]⟩, .string ⟨#[]⟩, .slice none 0 0, .slice none 0 0] 35)).alloc (.cells #[.nilFunc, .pointer none] 99)).alloc (.cells #[.pointer (some ⟨w.heap.size + 1 + 1 + 1 + 1, 0, none⟩)] 95)).heap[w.heap.size + 1 + 1 + 1 + 1]? = some (.cells #[.nilFunc, .pointer none] 99 (0, 0)) := (Below.heap_alloc _ _ _ (by simp <;> omega)).trans (heap_new_at (by simp))
 have f0 : ((((((w.alloc (.cells #[.int .i64 t.kd, .string t.nm.1, .string t.nm.2, x0, x1, x2, x3, x4, x5, x6, .slice A t.args.length c] 35)).alloc (.cells #[.int .i64 u.kd, .string u.nm.1, .string u.nm.2, y0, y1, y2, y3, y4, y5, y6, .slice A2 u.args.length c2] 35)).alloc (.cells #[.int .i64 n.kd, .string n.nm.1, .string n.nm.2, v0, v1, v2, v3, v4, v5, v6, .slice A3 n.args.length c3] 35)).alloc (.cells #[.int .i64 0, .string ⟨#[]⟩, .string ⟨#[]⟩, .int .i64 0, .string ⟨#[]⟩, .string ⟨#[]⟩, .string ⟨#[]⟩, .string ⟨#[]⟩, .string ⟨#[]⟩, .slice none 0 0, .slice none 0 0] 35)).alloc (.cells #[.nilFunc, .pointer none] 99)).alloc (.cells #[.pointer (some ⟨w.heap.size + 1 + 1 + 1 + 1, 0, none⟩)] 95)).frozen? ⟨w.heap.size + 1 + 1 + 1 + 1, 0, none⟩ = false := by simp only [World.frozen?, E6]; rfl
 have e0 : ((((((w.alloc (.cells #[.int .i64 t.kd, .string t.nm.1, .string t.nm.2, x0, x1, x2, x3, x4, x5, x6, .slice A t.args.length c] 35)).alloc (.cells #[.int .i64 u.kd, .string u.nm.1, .string u.nm.2, y0, y1, y2, y3, y4, y5, y6, .slice A2 u.args.length c2] 35)).alloc (.cells #[.int .i64 n.kd, .string n.nm.1, .string n.nm.2, v0, v1, v2, v3, v4, v5, v6, .slice A3 n.args.length c3] 35)).alloc (.cells #[.int .i64 0, .string ⟨#[]⟩, .string ⟨#[]⟩, .int .i64 0, .string ⟨#[]⟩, .string ⟨#[]⟩, .string ⟨#[]⟩, .string ⟨#[]⟩, .string ⟨#[]⟩, .slice none 0 0, .slice none 0 0] 35)).alloc (.cells #[.nilFunc, .pointer none] 99)).alloc (.cells #[.pointer (some ⟨w.heap.size + 1 + 1 + 1 + 1, 0, none⟩)] 95)).cell? ⟨w.heap.size + 1 + 1 + 1 + 1, 0, none⟩ = some .nilFunc := by rw [cell_of_row _ _ _ _ _ _ E6]; rfl
 have hsz : ((((((w.alloc (.cells #[.int .i64 t.kd, .string t.nm.1, .string t.nm.2, x0, x1, x2, x3, x4, x5, x6, .slice A t.args.length c] 35)).alloc (.cells #[.int .i64 u.kd, .string u.nm.1, .string u.nm.2, y0, y1, y2, y3, y4, y5, y6, .slice A2 u.args.length c2] 35)).alloc (.cells #[.int .i64 n.kd, .string n.nm.1, .string n.nm.2, v0, v1, v2, v3, v4, v5, v6, .slice A3 n.args.length c3] 35)).alloc (.cells #[.int .i64 0, .string ⟨#[]⟩, .string ⟨#[]⟩, .int .i64 0, .string ⟨#[]⟩, .string ⟨#[]⟩, .string ⟨#[]⟩, .string ⟨#[]⟩, .string ⟨#[]⟩, .slice none 0 0, .slice none 0 0] 35)).alloc (.cells #[.nilFunc, .pointer none] 99)).alloc (.cells #[.pointer (some ⟨w.heap.size + 1 + 1 + 1 + 1, 0, none⟩)] 95)).heap.size = w.heap.size + 6 := by simp
 have e7 := setCell_eq_setRow ((((((w.alloc (.cells #[.int .i64 t.kd, .string t.nm.1, .string t.nm.2, x0, x1, x2, x3, x4, x5, x6, .slice A t.args.length c] 35)).alloc (.cells #[.int .i64 u.kd, .string u.nm.1, .string u.nm.2, y0, y1, y2, y3, y4, y5, y6, .slice A2 u.args.length c2] 35)).alloc (.cells #[.int .i64 n.kd, .string n.nm.1, .string n.nm.2, v0, v1, v2, v3, v4, v5, v6, .slice A3 n.args.length c3] 35)).alloc (.cells #[.int .i64 0, .string ⟨#[]⟩, .string ⟨#[]⟩, .int .i64 0, .string ⟨#[]⟩, .string ⟨#[]⟩, .string ⟨#[]⟩, .string ⟨#[]⟩, .string ⟨#[]⟩, .slice none 0 0, .slice none 0 0] 35)).alloc (.cells #[.nilFunc, .pointer none] 99)).alloc (.cells #[.pointer (some ⟨w.heap.size + 1 + 1 + 1 + 1, 0, none⟩)] 95)) (w.heap.size + 1 + 1 + 1 + 1) 0 _ 99 (0, 0) (.func (.func 82) #[] #[.pointer (some ⟨w.heap.size + 1, 0, none⟩), .pointer (some ⟨w.heap.size + 1 + 1, 0, none⟩), .pointer (some ⟨w.heap.size + 1 + 1 + 1 + 1 + 1, 0, none⟩)]) E6
 have ho : ∀ q, q ≠ w.heap.size + 1 + 1 + 1 + 1 → (((((((w.alloc (.cells #[.int .i64 t.kd, .string t.nm.1, .string t.nm.2, x0, x1, x2, x3, x4, x5, x6, .slice A t.args.length c] 35)).alloc (.cells #[.int .i64 u.kd, .string u.nm.1, .string u.nm.2, y0, y1, y2, y3, y4, y5, y6, .slice A2 u.args.length c2] 35)).alloc (.cells #[.int .i64 n.kd, .string n.nm.1, .string n.nm.2, v0, v1, v2, v3, v4, v5, v6, .slice A3 n.args.length c3] 35)).alloc (.cells #[.int .i64 0, .string ⟨#[]⟩, .string ⟨#[]⟩, .int .i64 0, .string ⟨#[]⟩, .string ⟨#[]⟩, .string ⟨#[]⟩, .string ⟨#[]⟩, .string ⟨#[]⟩, .slice none 0 0, .slice none 0 0] 35)).alloc (.cells #[.nilFunc, .pointer none] 99)).alloc (.cells #[.pointer (some ⟨w.heap.size + 1 + 1 + 1 + 1, 0, none⟩)] 95)).setCell ⟨w.heap.size + 1 + 1 + 1 + 1, 0, none⟩ (.func (.func 82) #[] #[.pointer (some ⟨w.heap.size + 1, 0, none⟩), .pointer (some ⟨w.heap.size + 1 + 1, 0, none⟩), .pointer (some ⟨w.heap.size + 1 + 1 + 1 + 1 + 1, 0, none⟩)])).heap[q]? = ((((((w.alloc (.cells #[.int .i64 t.kd, .string t.nm.1, .string t.nm.2, x0, x1, x2, x3, x4, x5, x6, .slice A t.args.length c] 35)).alloc (.cells #[.int .i64 u.kd, .string u.nm.1, .string u.nm.2, y0, y1, y2, y3, y4, y5, y6, .slice A2 u.args.length c2] 35)).alloc (.cells #[.int .i64 n.kd, .string n.nm.1, .string n.nm.2, v0, v1, v2, v3, v4, v5, v6, .slice A3 n.args.length c3] 35)).alloc (.cells #[.int .i64 0, .string ⟨#[]⟩, .string ⟨#[]⟩, .int .i64 0, .string ⟨#[]⟩, .string ⟨#[]⟩, .string ⟨#[]⟩, .string ⟨#[]⟩, .string ⟨#[]⟩, .slice none 0 0, .slice none 0 0] 35)).alloc (.cells #[.nilFunc, .pointer none] 99)).alloc (.cells #[.pointer (some ⟨w.heap.size + 1 + 1 + 1 + 1, 0, none⟩)] 95)).heap[q]? := fun q hq => by rw [e7]; exact setRow_other _ _ _ _ hq
 have E7 : EdAt (((((((w.alloc (.cells #[.int .i64 t.kd, .string t.nm.1, .string t.nm.2, x0, x1, x2, x3, x4, x5, x6, .slice A t.args.length c] 35)).alloc (.cells #[.int .i64 u.kd, .string u.nm.1, .string u.nm.2, y0, y1, y2, y3, y4, y5, y6, .slice A2 u.args.length c2] 35)).alloc (.cells #[.int .i64 n.kd, .string n.nm.1, .string n.nm.2, v0, v1, v2, v3, v4, v5, v6, .slice A3 n.args.length c3] 35)).alloc (.cells #[.int .i64 0, .string ⟨#[]⟩, .string ⟨#[]⟩, .int .i64 0, .string ⟨#[]⟩, .string ⟨#[]⟩, .string ⟨#[]⟩, .string ⟨#[]⟩, .string ⟨#[]⟩, .slice none 0 0, .slice none 0 0] 35)).alloc (.cells #[.nilFunc, .pointer none] 99)).alloc (.cells #[.pointer (some ⟨w.heap.size + 1 + 1 + 1 + 1, 0, none⟩)] 95)).setCell ⟨w.heap.size + 1 + 1 + 1 + 1, 0, none⟩ (.func (.func 82) #[] #[.pointer (some ⟨w.heap.size + 1, 0, none⟩), .pointer (some ⟨w.heap.size + 1 + 1, 0, none⟩), .pointer (some ⟨w.heap.size + 1 + 1 + 1 + 1 + 1, 0, none⟩)])) (w.heap.size + 1 + 1 + 1 + 1) 82 #[.pointer (some ⟨w.heap.size + 1, 0, none⟩), .pointer (some ⟨w.heap.size + 1 + 1, 0, none⟩), .pointer (some ⟨w.heap.size + 1 + 1 + 1 + 1 + 1, 0, none⟩)] := by
  unfold EdAt
  rw [e7]
  exact setRow_heap _ _ _ _ _ _ E6
 have hA7 : Below w.heap.size w (((((((w.alloc (.cells #[.int .i64 t.kd, .string t.nm.1, .string t.nm.2, x0, x1, x2, x3, x4, x5, x6, .slice A t.args.length c] 35)).alloc (.cells #[.int .i64 u.kd, .string u.nm.1, .string u.nm.2, y0, y1, y2, y3, y4, y5, y6, .slice A2 u.args.length c2] 35)).alloc (.cells #[.int .i64 n.kd, .string n.nm.1, .string n.nm.2, v0, v1, v2, v3, v4, v5, v6, .slice A3 n.args.length c3] 35)).alloc (.cells #[.int .i64 0, .string ⟨#[]⟩, .string ⟨#[]⟩, .int .i64 0, .string ⟨#[]⟩, .string ⟨#[]⟩, .string ⟨#[]⟩, .string ⟨#[]⟩, .string ⟨#[]⟩, .slice none 0 0, .slice none 0 0] 35)).alloc (.cells #[.nilFunc, .pointer none] 99)).alloc (.cells #[.pointer (some ⟨w.heap.size + 1 + 1 + 1 + 1, 0, none⟩)] 95)).setCell ⟨w.heap.size + 1 + 1 + 1 + 1, 0, none⟩ (.func (.func 82) #[] #[.pointer (some ⟨w.heap.size + 1, 0, none⟩), .pointer (some ⟨w.heap.size + 1 + 1, 0, none⟩), .pointer (some ⟨w.heap.size + 1 + 1 + 1 + 1 + 1, 0, none⟩)])) := by rw [e7]; exact below_setRowO hA6 (by omega) _
 have hsz7 : (((((((w.alloc (.cells #[.int .i64 t.kd, .string t.nm.1, .string t.nm.2, x0, x1, x2, x3, x4, x5, x6, .slice A t.args.length c] 35)).alloc (.cells #[.int .i64 u.kd, .string u.nm.1, .string u.nm.2, y0, y1, y2, y3, y4, y5, y6, .slice A2 u.args.length c2] 35)).alloc (.cells #[.int .i64 n.kd, .string n.nm.1, .string n.nm.2, v0, v1, v2, v3, v4, v5, v6, .slice A3 n.args.length c3] 35)).alloc (.cells #[.int .i64 0, .string ⟨#[]⟩, .string ⟨#[]⟩, .int .i64 0, .string ⟨#[]⟩, .string ⟨#[]⟩, .string ⟨#[]⟩, .string ⟨#[]⟩, .string ⟨#[]⟩, .slice none 0 0, .slice none 0 0] 35)).alloc (.cells #[.nilFunc, .pointer none] 99)).alloc (.cells #[.pointer (some ⟨w.heap.size + 1 + 1 + 1 + 1, 0, none⟩)] 95)).setCell ⟨w.heap.size + 1 + 1 + 1 + 1, 0, none⟩ (.func (.func 82) #[] #[.pointer (some ⟨w.heap.size + 1, 0, none⟩), .pointer (some ⟨w.heap.size + 1 + 1, 0, none⟩), .pointer (some ⟨w.heap.size + 1 + 1 + 1 + 1 + 1, 0, none⟩)])).heap.size = w.heap.size + 6 := by rw [e7, size_setRow]; exact hsz
 have T0 : TB (((((((w.alloc (.cells #[.int .i64 t.kd, .string t.nm.1, .string t.nm.2, x0, x1, x2, x3, x4, x5, x6, .slice A t.args.length c] 35)).alloc (.cells #[.int .i64 u.kd, .string u.nm.1, .string u.nm.2, y0, y1, y2, y3, y4, y5, y6, .slice A2 u.args.length c2] 35)).alloc (.cells #[.int .i64 n.kd, .string n.nm.1, .string n.nm.2, v0, v1, v2, v3, v4, v5, v6, .slice A3 n.args.length c3] 35)).alloc (.cells #[.int .i64 0, .string ⟨#[]⟩, .string ⟨#[]⟩, .int .i64 0, .string ⟨#[]⟩, .string ⟨#[]⟩, .string ⟨#[]⟩, .string ⟨#[]⟩, .string ⟨#[]⟩, .slice none 0 0, .slice none 0 0] 35)).alloc (.cells #[.nilFunc, .pointer none] 99)).alloc (.cells #[.pointer (some ⟨w.heap.size + 1 + 1 + 1 + 1, 0, none⟩)] 95)).setCell ⟨w.heap.size + 1 + 1 + 1 + 1, 0, none⟩ (.func (.func 82) #[] #[.pointer (some ⟨w.heap.size + 1, 0, none⟩), .pointer (some ⟨w.heap.size + 1 + 1, 0, none⟩), .pointer (some ⟨w.heap.size + 1 + 1 + 1 + 1 + 1, 0, none⟩)])) w.heap.size [.int .i64 t.kd, .string t.nm.1, .string t.nm.2, x0, x1, x2, x3, x4, x5, x6, .slice A t.args.length c] := (ho _ (by omega)).trans ((Below.heap_alloc _ _ _ (by simp <;> omega)).trans ((Below.heap_alloc _ _ _ (by simp <;> omega)).trans ((Below.heap_alloc _ _ _ (by simp <;> omega)).trans ((Below.heap_alloc _ _ _ (by simp <;> omega)).trans ((Below.heap_alloc _ _ _ (by simp <;> omega)).trans (heap_alloc_new w _))))))
 have T1 : TB (((((((w.alloc (.cells #[.int .i64 t.kd, .string t.nm.1, .string t.nm.2, x0, x1, x2, x3, x4, x5, x6, .slice A t.args.length c] 35)).alloc (.cells #[.int .i64 u.kd, .string u.nm.1, .string u.nm.2, y0, y1, y2, y3, y4, y5, y6, .slice A2 u.args.length c2] 35)).alloc (.cells #[.int .i64 n.kd, .string n.nm.1, .string n.nm.2, v0, v1, v2, v3, v4, v5, v6, .slice A3 n.args.length c3] 35)).alloc (.cells #[.int .i64 0, .string ⟨#[]⟩, .string ⟨#[]⟩, .int .i64 0, .string ⟨#[]⟩, .string ⟨#[]⟩, .string ⟨#[]⟩, .string ⟨#[]⟩, .string ⟨#[]⟩, .slice none 0 0, .slice none 0 0] 35)).alloc (.cells #[.nilFunc, .pointer none] 99)).alloc (.cells #[.pointer (some ⟨w.heap.size + 1 + 1 + 1 + 1, 0, none⟩)] 95)).setCell ⟨w.heap.size + 1 + 1 + 1 + 1, 0, none⟩ (.func (.func 82) #[] #[.pointer (some ⟨w.heap.size + 1, 0, none⟩), .pointer (some ⟨w.heap.size + 1 + 1, 0, none⟩), .pointer (some ⟨w.heap.size + 1 + 1 + 1 + 1 + 1, 0, none⟩)])) (w.heap.size + 1) [.int .i64 u.kd, .string u.nm.1, .string u.nm.2, y0, y1, y2, y3, y4, y5, y6, .slice A2 u.args.length c2] := (ho _ (by omega)).trans ((Below.heap_alloc _ _ _ (by simp <;> omega)).trans ((Below.heap_alloc _ _ _ (by simp <;> omega)).trans ((Below.heap_alloc _ _ _ (by simp <;> omega)).trans ((Below.heap_alloc _ _ _ (by simp <;> omega)).trans (heap_new_at (by simp))))))
 have T2 : TB (((((((w.alloc (.cells #[.int .i64 t.kd, .string t.nm.1, .string t.nm.2, x0, x1, x2, x3, x4, x5, x6, .slice A t.args.length c] 35)).alloc (.cells #[.int .i64 u.kd, .string u.nm.1, .string u.nm.2, y0, y1, y2, y3, y4, y5, y6, .slice A2 u.args.length c2] 35)).alloc (.cells #[.int .i64 n.kd, .string n.nm.1, .string n.nm.2, v0, v1, v2, v3, v4, v5, v6, .slice A3 n.args.length c3] 35)).alloc (.cells #[.int .i64 0, .string ⟨#[]⟩, .string ⟨#[]⟩, .int .i64 0, .string ⟨#[]⟩, .string ⟨#[]⟩, .string ⟨#[]⟩, .string ⟨#[]⟩, .string ⟨#[]⟩, .slice none 0 0, .slice none 0 0] 35)).alloc (.cells #[.nilFunc, .pointer none] 99)).alloc (.cells #[.pointer (some ⟨w.heap.size + 1 + 1 + 1 + 1, 0, none⟩)] 95)).setCell ⟨w.heap.size + 1 + 1 + 1 + 1, 0, none⟩ (.func (.func 82) #[] #[.pointer (some ⟨w.heap.size + 1, 0, none⟩), .pointer (some ⟨w.heap.size + 1 + 1, 0, none⟩), .pointer (some ⟨w.heap.size + 1 + 1 + 1 + 1 + 1, 0, none⟩)])) (w.heap.size + 1 + 1) [.int .i64 n.kd, .string n.nm.1, .string n.nm.2, v0, v1, v2, v3, v4, v5, v6, .slice A3 n.args.length c3] := (ho _ (by omega)).trans ((Below.heap_alloc _ _ _ (by simp <;> omega)).trans ((Below.heap_alloc _ _ _ (by simp <;> omega)).trans ((Below.heap_alloc _ _ _ (by simp <;> omega)).trans (heap_new_at (by simp)))))
 have T3 : TB (((((((w.alloc (.cells #[.int .i64 t.kd, .string t.nm.1, .string t.nm.2, x0, x1, x2, x3, x4, x5, x6, .slice A t.args.length c] 35)).alloc (.cells #[.int .i64 u.kd, .string u.nm.1, .string u.nm.2, y0, y1, y2, y3, y4, y5, y6, .slice A2 u.args.length c2] 35)).alloc (.cells #[.int .i64 n.kd, .string n.nm.1, .string n.nm.2, v0, v1, v2, v3, v4, v5, v6, .slice A3 n.args.length c3] 35)).alloc (.cells #[.int .i64 0, .string ⟨#[]⟩, .string ⟨#[]⟩, .int .i64 0, .string ⟨#[]⟩, .string ⟨#[]⟩, .string ⟨#[]⟩, .string ⟨#[]⟩, .string ⟨#[]⟩, .slice none 0 0, .slice none 0 0] 35)).alloc (.cells #[.nilFunc, .pointer none] 99)).alloc (.cells #[.pointer (some ⟨w.heap.size + 1 + 1 + 1 + 1, 0, none⟩)] 95)).setCell ⟨w.heap.size + 1 + 1 + 1 + 1, 0, none⟩ (.func (.func 82) #[] #[.pointer (some ⟨w.heap.size + 1, 0, none⟩), .pointer (some ⟨w.heap.size + 1 + 1, 0, none⟩), .pointer (some ⟨w.heap.size + 1 + 1 + 1 + 1 + 1, 0, none⟩)])) (w.heap.size + 1 + 1 + 1) zT := (ho _ (by omega)).trans ((Below.heap_alloc _ _ _ (by simp <;> omega)).trans ((Below.heap_alloc _ _ _ (by simp <;> omega)).trans (heap_new_at (by simp))))
 have T5 : (((((((w.alloc (.cells #[.int .i64 t.kd, .string t.nm.1, .string t.nm.2, x0, x1, x2, x3, x4, x5, x6, .slice A t.args.length c] 35)).alloc (.cells #[.int .i64 u.kd, .string u.nm.1, .string u.nm.2, y0, y1, y2, y3, y4, y5, y6, .slice A2 u.args.length c2] 35)).alloc (.cells #[.int .i64 n.kd, .string n.nm.1, .string n.nm.2, v0, v1, v2, v3, v4, v5, v6, .slice A3 n.args.length c3] 35)).alloc (.cells #[.int .i64 0, .string ⟨#[]⟩, .string ⟨#[]⟩, .int .i64 0, .string ⟨#[]⟩, .string ⟨#[]⟩, .string ⟨#[]⟩, .string ⟨#[]⟩, .string ⟨#[]⟩, .slice none 0 0, .slice none 0 0] 35)).alloc (.cells #[.nilFunc, .pointer none] 99)).alloc (.cells #[.pointer (some ⟨w.heap.size + 1 + 1 + 1 + 1, 0, none⟩)] 95)).setCell ⟨w.heap.size + 1 + 1 + 1 + 1, 0, none⟩ (.func (.func 82) #[] #[.pointer (some ⟨w.heap.size + 1, 0, none⟩), .pointer (some ⟨w.heap.size + 1 + 1, 0, none⟩), .pointer (some ⟨w.heap.size + 1 + 1 + 1 + 1 + 1, 0, none⟩)])).heap[w.heap.size + 1 + 1 + 1 + 1 + 1]? = some (.cells #[.pointer (some ⟨w.heap.size + 1 + 1 + 1 + 1, 0, none⟩)] 95 (0, 0)) := (ho _ (by omega)).trans (heap_new_at (by simp))
 have hce : (((((((w.alloc (.cells #[.int .i64 t.kd, .string t.nm.1, .string t.nm.2, x0, x1, x2, x3, x4, x5, x6, .slice A t.args.length c] 35)).alloc (.cells #[.int .i64 u.kd, .string u.nm.1, .string u.nm.2, y0, y1, y2, y3, y4, y5, y6, .slice A2 u.args.length c2] 35)).alloc (.cells #[.int .i64 n.kd, .string n.nm.1, .string n.nm.2, v0, v1, v2, v3, v4, v5, v6, .slice A3 n.args.length c3] 35)).alloc (.cells #[.int .i64 0, .string ⟨#[]⟩, .string ⟨#[]⟩, .int .i64 0, .string ⟨#[]⟩, .string ⟨#[]⟩, .string ⟨#[]⟩, .string ⟨#[]⟩, .string ⟨#[]⟩, .slice none 0 0, .slice none 0 0] 35)).alloc (.cells #[.nilFunc, .pointer none] 99)).alloc (.cells #[.pointer (some ⟨w.heap.size + 1 + 1 + 1 + 1, 0, none⟩)] 95)).setCell ⟨w.heap.size + 1 + 1 + 1 + 1, 0, none⟩ (.func (.func 82) #[] #[.pointer (some ⟨w.heap.size + 1, 0, none⟩), .pointer (some ⟨w.heap.size + 1 + 1, 0, none⟩), .pointer (some ⟨w.heap.size + 1 + 1 + 1 + 1 + 1, 0, none⟩)])).cell? ⟨w.heap.size + 1 + 1 + 1 + 1 + 1, 0, none⟩ = some (.pointer (some ⟨w.heap.size + 1 + 1 + 1 + 1, 0, none⟩)) := by rw [cell_of_row _ _ _ _ _ _ T5]; rfl
 have C : RepC (((((((w.alloc (.cells #[.int .i64 t.kd, .string t.nm.1, .string t.nm.2, x0, x1, x2, x3, x4, x5, x6, .slice A t.args.length c] 35)).alloc (.cells #[.int .i64 u.kd, .string u.nm.1, .string u.nm.2, y0, y1, y2, y3, y4, y5, y6, .slice A2 u.args.length c2] 35)).alloc (.cells #[.int .i64 n.kd, .string n.nm.1, .string n.nm.2, v0, v1, v2, v3, v4, v5, v6, .slice A3 n.args.length c3] 35)).alloc (.cells #[.int .i64 0, .string ⟨#[]⟩, .string ⟨#[]⟩, .int .i64 0, .string ⟨#[]⟩, .string ⟨#[]⟩, .string ⟨#[]⟩, .string ⟨#[]⟩, .string ⟨#[]⟩, .slice none 0 0, .slice none 0 0] 35)).alloc (.cells #[.nilFunc, .pointer none] 99)).alloc (.cells #[.pointer (some ⟨w.heap.size + 1 + 1 + 1 + 1, 0, none⟩)] 95)).setCell ⟨w.heap.size + 1 + 1 + 1 + 1, 0, none⟩ (.func (.func 82) #[] #[.pointer (some ⟨w.heap.size + 1, 0, none⟩), .pointer (some ⟨w.heap.size + 1 + 1, 0, none⟩), .pointer (some ⟨w.heap.size + 1 + 1 + 1 + 1 + 1, 0, none⟩)])) S (w.heap.size + 1 + 1 + 1 + 1) (w.heap.size + 1) (w.heap.size + 1 + 1) (w.heap.size + 1 + 1 + 1 + 1 + 1) u n [.int .i64 u.kd, .string u.nm.1, .string u.nm.2, y0, y1, y2, y3, y4, y5, y6, .slice A2 u.args.length c2] [.int .i64 n.kd, .string n.nm.1, .string n.nm.2, v0, v1, v2, v3, v4, v5, v6, .slice A3 n.args.length c3] := ⟨E7, hce, T1, T2, hu.below hS hA7, hnm.below hS hA7, hS.later hA7.size⟩
 have WHC := hI (wholeE 82 _ (replT u n) (chR u) t (w.heap.size + 1 + 1 + 1 + 1) _ (((((((w.alloc (.cells #[.int .i64 t.kd, .string t.nm.1, .string t.nm.2, x0, x1, x2, x3, x4, x5, x6, .slice A t.args.length c] 35)).alloc (.cells #[.int .i64 u.kd, .string u.nm.1, .string u.nm.2, y0, y1, y2, y3, y4, y5, y6, .slice A2 u.args.length c2] 35)).alloc (.cells #[.int .i64 n.kd, .string n.nm.1, .string n.nm.2, v0, v1, v2, v3, v4, v5, v6, .slice A3 n.args.length c3] 35)).alloc (.cells #[.int .i64 0, .string ⟨#[]⟩, .string ⟨#[]⟩, .int .i64 0, .string ⟨#[]⟩, .string ⟨#[]⟩, .string ⟨#[]⟩, .string ⟨#[]⟩, .string ⟨#[]⟩, .slice none 0 0, .slice none 0 0] 35)).alloc (.cells #[.nilFunc, .pointer none] 99)).alloc (.cells #[.pointer (some ⟨w.heap.size + 1 + 1 + 1 + 1, 0, none⟩)] 95)).setCell ⟨w.heap.size + 1 + 1 + 1 + 1, 0, none⟩ (.func (.func 82) #[] #[.pointer (some ⟨w.heap.size + 1, 0, none⟩), .pointer (some ⟨w.heap.size + 1 + 1, 0, none⟩), .pointer (some ⟨w.heap.size + 1 + 1 + 1 + 1 + 1, 0, none⟩)])) S C.hS E7 (h.below hS hA7) hn (rep_hcf _ _ _) (fun W b k cs hw hq => repC u n d hd hun hub _ _ _ _ S _ _ t W b k cs (C.keep hw) hn htb hq))
 have c5 : ((((((w.alloc (.cells #[.int .i64 t.kd, .string t.nm.1, .string t.nm.2, x0, x1, x2, x3, x4, x5, x6, .slice A t.args.length c] 35)).alloc (.cells #[.int .i64 u.kd, .string u.nm.1, .string u.nm.2, y0, y1, y2, y3, y4, y5, y6, .slice A2 u.args.length c2] 35)).alloc (.cells #[.int .i64 n.kd, .string n.nm.1, .string n.nm.2, v0, v1, v2, v3, v4, v5, v6, .slice A3 n.args.length c3] 35)).alloc (.cells #[.int .i64 0, .string ⟨#[]⟩, .string ⟨#[]⟩, .int .i64 0, .string ⟨#[]⟩, .string ⟨#[]⟩, .string ⟨#[]⟩, .string ⟨#[]⟩, .string ⟨#[]⟩, .slice none 0 0, .slice none 0 0] 35)).alloc (.cells #[.nilFunc, .pointer none] 99)).alloc (.cells #[.pointer (some ⟨w.heap.size + 1 + 1 + 1 + 1, 0, none⟩)] 95)).cell? ⟨w.heap.size + 1 + 1 + 1 + 1 + 1, 0, none⟩ = some (.pointer (some ⟨w.heap.size + 1 + 1 + 1 + 1, 0, none⟩)) := by rw [cell_of_row _ _ _ _ _ _ (heap_new_at (by simp))]; rfl
 have HT0 := hI T0
 have HT3 := hI T3
 have HA7 := hI hA7
 have HCE := hI hce
 have HS := hI hS
 generalize replT u n t = x at WHC ⊢
 unfold vTm at WHC ⊢
 clear h hu hnm hA6 E6 hsz e7 ho E7 hA7 hsz7 T0 T1 T2 T3 T5 hce C hn hS hun hub htb
 go_enter Tryz.func37, Tryz.ntmps37
 go_upto_region 2 with fail
 generalize ((((((w.alloc (.cells #[.int .i64 t.kd, .string t.nm.1, .string t.nm.2, x0, x1, x2, x3, x4, x5, x6, .slice A t.args.length c] 35)).alloc (.cells #[.int .i64 u.kd, .string u.nm.1, .string u.nm.2, y0, y1, y2, y3, y4, y5, y6, .slice A2 u.args.length c2] 35)).alloc (.cells #[.int .i64 n.kd, .string n.nm.1, .string n.nm.2, v0, v1, v2, v3, v4, v5, v6, .slice A3 n.args.length c3] 35)).alloc (.cells #[.int .i64 0, .string ⟨#[]⟩, .string ⟨#[]⟩, .int .i64 0, .string ⟨#[]⟩, .string ⟨#[]⟩, .string ⟨#[]⟩, .string ⟨#[]⟩, .string ⟨#[]⟩, .slice none 0 0, .slice none 0 0] 35)).alloc (.cells #[.nilFunc, .pointer none] 99)).alloc (.cells #[.pointer (some ⟨w.heap.size + 1 + 1 + 1 + 1, 0, none⟩)] 95)) = Y6 at *
 go_upto_region 3 with fail
 generalize Y6.setCell ⟨w.heap.size + 1 + 1 + 1 + 1, 0, none⟩ (.func (.func 82) #[] #[.pointer (some ⟨w.heap.size + 1, 0, none⟩), .pointer (some ⟨w.heap.size + 1 + 1, 0, none⟩), .pointer (some ⟨w.heap.size + 1 + 1 + 1 + 1 + 1, 0, none⟩)]) = Y at *
 have hce := HCE.out
 clear e0 f0 c5
 go_wp2_with ((with_reducible refine loadTb (cs := [.int .i64 t.kd, .string t.nm.1, .string t.nm.2, x0, x1, x2, x3, x4, x5, x6, .slice A t.args.length c]) (.tmp 3) ?_ ?_ ?_ HT0.out ?_ ?_); rfl; rfl; rfl; rfl)
 refine WHC.out.mono ?_
 rintro e w8 ⟨cs8, rfl, h8, hb8⟩
 have O8 := hI h8.o11
 have HB := hI (HT3.out.keep hb8)
 have H8 : Hid (TmAt w8 (Upto w w8 S) x cs8) := h8.more fun q hq => up3 HA7.out (Below.refl _ _) q hq
 have HW := hI (HA7.out.trans (hb8.mono HA7.out.size))
 clear h8 hb8 hce
 go_wp2_with ((with_reducible refine storeTb (cs := cs8) (.tmp 6) (.tmp 16) ?_ ?_ ?_ ?_ HB.out ?_ ?_ ?_ ?_); rfl; rfl; rfl; rfl; rfl; exact O8.out.1; exact O8.out.2)
 exact retTb rfl rfl (HB.out.set _) O8.out.1 ⟨_, rfl, TmAt.boxed H8.out HB.out.nb _, below_setRowO HW.out (by omega) _⟩
def NmOkq (t : Tm) : Prop := (t.nm.1.size ≤ maxLen ∧ t.nm.2.size ≤ maxLen) ∧ t.bd 10
abbrev Spotq (w0 : World) (S : Nat → Prop) := { x : Nat × Nat × Tm // ∃ cs, TmP w0 S x.2.2 x.1 x.2.1 cs ∧ NmOkq x.2.2 }
def Spotq.tm {w0 : World} {S : Nat → Prop} (x : Spotq w0 S) : Tm := x.1.2.2
structure ItCq (w0 : World) (S M : Nat → Prop) (B0 l N : Nat) (J Jx : List (Spotq w0 S) → World → Prop) : Prop where
 hS : ∀ b, S b → b < B0 ∧ ¬ M b
 hB : B0 ≤ w0.heap.size
 hM : ∀ b, M b → b < B0
 jb : ∀ pre W W', J pre W → Below W.heap.size W W' → J pre W'
 jx : ∀ pre W W', Jx pre W → Below W.heap.size W W' → Jx pre W'
 hY : ∀ m pre (x : Spotq w0 S) W, J pre W → pre.length < N → YieldAt Fence.wide m Tryz.prog l #[.pointer (some ⟨x.1.1, x.1.2.1, none⟩)] W fun e W' => (e = .returned (.bool true) ∧ J (pre ++ [x]) W' ∧ KeepC B0 M W W') ∨ (e = .returned (.bool false) ∧ Jx (pre ++ [x]) W')
theorem ItCq.tmP {w0 W : World} {S M : Nat → Prop} {B0 l N : Nat} {J Jx : List (Spotq w0 S) → World → Prop} (C : ItCq w0 S M B0 l N J Jx) (hk : KeepC B0 M w0 W) {t : Tm} {b k : Nat} {cs : List Value} (h : TmP w0 S t b k cs) : TmP W S t b k cs :=
 h.keep (fun _ h => h) fun b hb => hk.old C.hB (C.hS b hb).1 (C.hS b hb).2
def VisQq {w0 : World} {S : Nat → Prop} (B0 : Nat) (M : Nat → Prop) (J Jx : List (Spotq w0 S) → World → Prop) (pre : List (Spotq w0 S)) (L : List Tm) (W : World) (r : Bool) (W' : World) : Prop :=
 (r = true ∧ ∃ xs : List (Spotq w0 S), xs.map Spotq.tm = L ∧ J (pre ++ xs) W' ∧ KeepC B0 M W W') ∨ (r = false ∧ ∃ xs : List (Spotq w0 S), xs.map Spotq.tm <+: L ∧ Jx (pre ++ xs) W')
def RetVq {w0 : World} {S : Nat → Prop} (B0 : Nat) (M : Nat → Prop) (J Jx : List (Spotq w0 S) → World → Prop) (pre : List (Spotq w0 S)) (L : List Tm) (W : World) (e : Ending) (W' : World) : Prop :=
 ∃ r, e = .returned (.bool r) ∧ VisQq B0 M J Jx pre L W r W'
attribute [local go_sem] Oper.semAt_some
theorem visitStepq {w0 : World} {S M : Nat → Prop} {B0 l N : Nat} {J Jx : List (Spotq w0 S) → World → Prop} (C : ItCq w0 S M B0 l N J Jx) (t : Tm) (b k : Nat) (cs : List Value) (hP0 : TmP w0 S t b k cs) (hsh : NmOkq t) (hn : t.nodes ≤ 3000)
 (pre : List (Spotq w0 S)) (W : World) (hk : KeepC B0 M w0 W) (hJ : J pre W) (hN : pre.length + (subsT t).length ≤ N)
 (hv1 : t.kd = 3 → ∀ W1 (pre' : List (Spotq w0 S)) (Bt Bm By : Nat), KeepC B0 M w0 W1 → VBx W1 B0 l b k Bt Bm By → J pre' W1 → pre'.length + (subsTs t.args).length ≤ N → Calls Tryz.prog 135 #[.pointer (some ⟨Bt, 0, none⟩), .pointer (some ⟨Bm, 0, none⟩), .pointer (some ⟨By, 0, none⟩)] W1 (RetVq B0 M J Jx pre' (subsTs t.args) W1)) :
 Calls Tryz.prog 102 #[.pointer none, .pointer (some ⟨b, k, none⟩), .func (.yield l) #[] #[]] W (RetVq B0 M J Jx pre (subsT t) W) := by
 have hW := hk.size
 have hB := C.hB
 have hA : Below W.heap.size W (((W.alloc (.cells #[.pointer none] 120)).alloc (.cells #[.pointer (some ⟨b, k, none⟩)] 91)).alloc (.cells #[.func (.yield l) #[] #[]] 115)) := Below.alloc (Below.alloc (Below.alloc (Below.refl _ _) (Nat.le_refl _) _) (by simp) _) (by simp <;> omega) _
 have hJ3 := C.jb _ _ _ hJ hA
 have hlen : pre.length < N := by
  have : 1 ≤ (subsT t).length := by rw [subsT_eq]; simp
  omega
 have hyy : YieldAt Fence.wide 2 Tryz.prog l #[.pointer (some ⟨b, k, none⟩)] (((W.alloc (.cells #[.pointer none] 120)).alloc (.cells #[.pointer (some ⟨b, k, none⟩)] 91)).alloc (.cells #[.func (.yield l) #[] #[]] 115)) (fun e W' => (e = .returned (.bool true) ∧ J (pre ++ [⟨(b, k, t), cs, hP0, hsh⟩]) W' ∧ KeepC B0 M (((W.alloc (.cells #[.pointer none] 120)).alloc (.cells #[.pointer (some ⟨b, k, none⟩)] 91)).alloc (.cells #[.func (.yield l) #[] #[]] 115)) W') ∨ (e = .returned (.bool false) ∧ Jx (pre ++ [⟨(b, k, t), cs, hP0, hsh⟩]) W')) := C.hY 2 pre ⟨(b, k, t), cs, hP0, hsh⟩ _ hJ3 hlen
 obtain ⟨x, hx⟩ : ∃ x : Spotq w0 S, x = ⟨(b, k, t), cs, hP0, hsh⟩ := ⟨_, rfl⟩
 have hxt : x.tm = t := by rw [hx]; rfl
 rw [← hx] at hyy
 obtain ⟨fn, tmps, assign, body, hy, hR⟩ := hyy
 obtain ⟨Bm, hBm⟩ : ∃ Bm, Bm = W.heap.size := ⟨_, rfl⟩
 obtain ⟨Bt, hBt⟩ : ∃ Bt, Bt = W.heap.size + 1 := ⟨_, rfl⟩
 obtain ⟨By, hBy⟩ : ∃ By, By = W.heap.size + 1 + 1 := ⟨_, rfl⟩
 have v0 : VBx (((W.alloc (.cells #[.pointer none] 120)).alloc (.cells #[.pointer (some ⟨b, k, none⟩)] 91)).alloc (.cells #[.func (.yield l) #[] #[]] 115)) B0 l b k Bt Bm By := by
  rw [hBt, hBm, hBy]
  exact ⟨(Below.heap_alloc _ _ _ (by simp)).trans (heap_alloc2_new W _ _), (Below.heap_alloc _ _ _ (by simp <;> omega)).trans (heap_alloc2_old W _ _), heap_new_at (by simp), by omega, by omega, by omega⟩
 have HV := hI v0
 have HA := hI hA
 have HK := hI hk
 have HC := hI C
 have HXT := hI hxt
 have HP0 := hI hP0
 have hKW : KeepC B0 M W (((W.alloc (.cells #[.pointer none] 120)).alloc (.cells #[.pointer (some ⟨b, k, none⟩)] 91)).alloc (.cells #[.func (.yield l) #[] #[]] 115)) := KeepC.of_below hA
 have HKW := hI hKW
 have hS1 := subsT_eq t
 have hN1 : (pre ++ [x]).length + (subsTs t.args).length ≤ N := by
  rw [hS1] at hN; simp at hN ⊢; omega
 have HV1 := hI hv1
 have HS1 := hI hS1
 have HN1 := hI hN1
 clear hv1 hP0 hx hJ hJ3 hlen hN hS1 hN1 hk hxt v0 hKW C hW hB
 refine (callsIn_wide (n := 3)).1 ?_
 refine callsIn_of_wp Tryz.func102 rfl trivial ?_
 simp only [Tryz.ntmps102, List.size_toArray, List.length_cons, List.length_nil, Nat.reduceAdd, Nat.reduceSub, Array.replicate_succ, Array.replicate_zero, List.push_toArray, List.append_toArray, List.nil_append, List.cons_append]
 gi_wp2_with fail
 rw [← hBy, ← hBt, ← hBm] at *
 try refine ⟨fun h => by cases h, ?_⟩
 refine hR.mono ?_
 clear hR hy
 rintro e W4 (⟨rfl, hJ4, hk4⟩ | ⟨rfl, hx4⟩)
 · have HV4 := hI (HV.out.keep HC.out.hM hk4)
   have HK4 := hI (HKW.out.trans hk4)
   have HJ4 := hI hJ4
   have hk04 := HK.out.trans HK4.out
   have hP4 := HC.out.tmP hk04 HP0.out
   have hlb4 : b < W4.heap.size := Nat.lt_of_lt_of_le (Nat.lt_of_lt_of_le (HC.out.hS b HP0.out.1.1).1 HC.out.hB) hk04.size
   have HT := hI HV4.out.t
   have HM := hI HV4.out.m
   have HY := hI HV4.out.y
   have HK04 := hI hk04
   have HLB := hI hlb4
   obtain ⟨x0, x1, x2, x3, x4, x5, x6, A, c, _, _, ha, l0, l1, l2, l3, l4, l5, l6, l7, l8, l9, l10⟩ := hP4.cells
   have L0 := hI l0
   have L10 := hI l10
   have HAA := hI ha
   clear l0 l1 l2 l3 l4 l5 l6 l7 l8 l9 l10 hk4 hJ4 hP4 hk04 hlb4 ha HV
   gi_wp2_with fail
   refine wpIn_wide.2 ?_
   generalize (((W.alloc (.cells #[.pointer none] 120)).alloc (.cells #[.pointer (some ⟨b, k, none⟩)] 91)).alloc (.cells #[.func (.yield l) #[] #[]] 115)) = Y at *
   by_cases hk3 : t.kd = 3
   · have V1C := HV1.out hk3
     have PC : ∀ X, Below W4.heap.size W4 X → Calls Tryz.prog 104 #[.slice A t.args.length c] X (fun e w' => e = .returned (.agg (plV A t.args.length)) ∧ Below X.heap.size X w') := fun X hb => placeT t.args A c X S (HAA.out.keep (fun _ h => h) fun q hq => (KeepC.of_below hb : KeepC B0 M W4 X).old (Nat.le_trans HC.out.hB HK04.out.size) (HC.out.hS q hq).1 (HC.out.hS q hq).2)
     obtain ⟨p0, p1, ep, ho0, ho1⟩ : ∃ p0 p1, plV A t.args.length = #[p0, p1] ∧ p0.oneCell' = true ∧ p1.oneCell' = true := by unfold plV; split <;> exact ⟨_, _, rfl, rfl, rfl⟩
     rw [ep] at PC
     replace PC := hI PC
     have RCC : Hid (∀ X, Below W4.heap.size W4 X → Calls Tryz.prog 134 #[.pointer none, .agg #[p0, p1], .func (.func 135) #[] #[.pointer (some ⟨Bt, 0, none⟩), .pointer (some ⟨Bm, 0, none⟩), .pointer (some ⟨By, 0, none⟩)]] X (fun e w' => ∃ r, e = .returned (.bool r) ∧ VisQq B0 M J Jx (pre ++ [x]) (subsTs t.args) W4 r w')) := fun X hX =>
      recallQ p0 p1 _ _ _ _ X ho0 ho1 fun X2 hX2 => by
       have hb2 := chain2 hX hX2 (Nat.le_refl _)
       have hk2 : KeepC B0 M W4 X2 := KeepC.of_below hb2
       refine (V1C X2 (pre ++ [x]) Bt Bm By (HK04.out.trans hk2) (HV4.out.keep HC.out.hM hk2) (HC.out.jb _ _ _ HJ4.out hb2) HN1.out).mono ?_
       rintro e w' ⟨r, rfl, (⟨rfl, xs, h1, h2, h3⟩ | ⟨rfl, xs, h1, h2⟩)⟩
       · exact ⟨true, rfl, .inl ⟨rfl, xs, h1, h2, hk2.trans h3⟩⟩
       · exact ⟨false, rfl, .inr ⟨rfl, xs, h1, h2⟩⟩
     rw [hk3] at L0
     have HK3 := hI hk3
     generalize t.args.length = L at *
     clear ep ho0 ho1 HV1 V1C hk3
     refine wp_region_grow (l := _) 13 (by kernel_rfl) (by kernel_rfl) (fun i => [11, 12, 13, 14, 15, 16, 17, 18, 19, 20, 21, 22, 23].getD i 0) (LR [LV (.pointer (some ⟨b, k, none⟩)), LV (.pointer (some ⟨b, k, none⟩)), LV (.pointer (some ⟨b, k, none⟩)), LV (.int .i64 3), LV (.bool false), LV (.bool false), LV (.pointer none), LV (.pointer (some ⟨b, k, none⟩)), LV (.pointer (some ⟨b, k, none⟩)), LV (.pointer (some ⟨b, k + 10, none⟩)), LV (.slice A L c), LV (.agg #[p0, p1]), LV (.func (.func 135) #[] #[.pointer (some ⟨Bt, 0, none⟩), .pointer (some ⟨Bm, 0, none⟩), .pointer (some ⟨By, 0, none⟩)])]) (LR_mono ⟨mLV _, mLV _, mLV _, mLV _, mLV _, mLV _, mLV _, mLV _, mLV _, mLV _, mLV _, mLV _, mLV _, trivial⟩) (by
      intro i j hi hj h
      exact inj_getD [11, 12, 13, 14, 15, 16, 17, 18, 19, 20, 21, 22, 23] (by decide) i j hi hj h) (by
      intro i hi
      exact lt_getD 26 [11, 12, 13, 14, 15, 16, 17, 18, 19, 20, 21, 22, 23] (by decide) i hi) ?step ?done
     case step =>
      intro ii hii a w9 v lo hi' hoth hb hw
      have sl3 : a.tmps[3]? = some (.pointer (some ⟨Bm, 0, none⟩)) := (hoth 3 (fun j hj => ne_getD 3 _ (by decide) j hj)).trans rfl
      have sl4 : a.tmps[4]? = some (.pointer (some ⟨Bt, 0, none⟩)) := (hoth 4 (fun j hj => ne_getD 4 _ (by decide) j hj)).trans rfl
      have sl5 : a.tmps[5]? = some (.pointer (some ⟨By, 0, none⟩)) := (hoth 5 (fun j hj => ne_getD 5 _ (by decide) j hj)).trans rfl
      match ii, hii with
      | 0, _ =>
       have cc := cell1 ((hb.block Bt (lt_row HT.out)).trans HT.out)
       refine wpOp_step rfl fun K' hK' => ?_
       rw [if_pos (wanted_plain rfl)]
       unfold Oper.wp
       simp only [execOp]
       go_simp
       exact hK' _ _ ⟨_, rfl, Below.refl _ _, rfl⟩
      | 1, _ =>
       obtain ⟨s0, r0, _⟩ := hw 0 (by omega) (by kernel_rfl)
       have e0 : v 0 = .pointer (some ⟨b, k, none⟩) := r0
       rw [e0] at s0
       replace s0 : a.tmps[11]? = some (.pointer (some ⟨b, k, none⟩)) := s0
       refine wpOp_step rfl fun K' hK' => ?_
       rw [if_pos (wanted_plain rfl)]
       unfold Oper.wp
       simp only [execOp]
       go_simp
       exact hK' _ _ ⟨_, rfl, Below.refl _ _, rfl⟩
      | 2, _ =>
       obtain ⟨s0, r0, _⟩ := hw 1 (by omega) (by kernel_rfl)
       have e0 : v 1 = .pointer (some ⟨b, k, none⟩) := r0
       rw [e0] at s0
       replace s0 : a.tmps[12]? = some (.pointer (some ⟨b, k, none⟩)) := s0
       refine wpOp_step rfl fun K' hK' => ?_
       rw [if_pos (wanted_plain rfl)]
       unfold Oper.wp
       simp only [execOp]
       go_simp
       exact hK' _ _ ⟨_, rfl, Below.refl _ _, rfl⟩
      | 3, _ =>
       obtain ⟨s0, r0, _⟩ := hw 2 (by omega) (by kernel_rfl)
       have e0 : v 2 = .pointer (some ⟨b, k, none⟩) := r0
       rw [e0] at s0
       replace s0 : a.tmps[13]? = some (.pointer (some ⟨b, k, none⟩)) := s0
       have cc := (hb.cell (p := ⟨b, k, none⟩) HLB.out).trans L0.out
       refine wpOp_step rfl fun K' hK' => ?_
       rw [if_pos (wanted_plain rfl)]
       unfold Oper.wp
       simp only [execOp]
       go_simp
       exact hK' _ _ ⟨_, rfl, Below.refl _ _, rfl⟩
      | 4, _ =>
       obtain ⟨s0, r0, _⟩ := hw 3 (by omega) (by kernel_rfl)
       have e0 : v 3 = .int .i64 3 := r0
       rw [e0] at s0
       replace s0 : a.tmps[14]? = some (.int .i64 3) := s0
       refine wpOp_step rfl fun K' hK' => ?_
       rw [if_pos (wanted_plain rfl)]
       unfold Oper.wp
       simp only [execOp]
       go_simp
       exact hK' _ _ ⟨_, rfl, Below.refl _ _, rfl⟩
      | 5, _ =>
       obtain ⟨s0, r0, _⟩ := hw 4 (by omega) (by kernel_rfl)
       have e0 : v 4 = .bool false := r0
       rw [e0] at s0
       replace s0 : a.tmps[15]? = some (.bool false) := s0
       refine wpOp_step rfl fun K' hK' => ?_
       rw [if_pos (wanted_plain rfl)]
       unfold Oper.wp
       simp only [execOp]
       go_simp
       exact hK' _ _ ⟨_, rfl, Below.refl _ _, rfl⟩
      | 6, _ =>
       obtain ⟨s9, r9, _⟩ := hw 5 (by omega) (by kernel_rfl)
       have e9 : v 5 = .bool false := r9
       rw [e9] at s9
       replace s9 : a.tmps[16]? = some (.bool false) := s9
       have cc := cell1 ((hb.block Bm (lt_row HM.out)).trans HM.out)
       refine wpOp_step rfl fun K' hK' => ?_
       rw [if_pos (wanted_on rfl rfl rfl s9 rfl)]
       unfold Oper.wp
       simp only [execOp]
       go_simp
       exact hK' _ _ ⟨_, rfl, Below.refl _ _, rfl⟩
      | 7, _ =>
       obtain ⟨s9, r9, _⟩ := hw 5 (by omega) (by kernel_rfl)
       have e9 : v 5 = .bool false := r9
       rw [e9] at s9
       replace s9 : a.tmps[16]? = some (.bool false) := s9
       have cc := cell1 ((hb.block Bt (lt_row HT.out)).trans HT.out)
       refine wpOp_step rfl fun K' hK' => ?_
       rw [if_pos (wanted_on rfl rfl rfl s9 rfl)]
       unfold Oper.wp
       simp only [execOp]
       go_simp
       exact hK' _ _ ⟨_, rfl, Below.refl _ _, rfl⟩
      | 8, _ =>
       obtain ⟨s0, r0, _⟩ := hw 7 (by omega) (by kernel_rfl)
       have e0 : v 7 = .pointer (some ⟨b, k, none⟩) := r0
       rw [e0] at s0
       replace s0 : a.tmps[18]? = some (.pointer (some ⟨b, k, none⟩)) := s0
       obtain ⟨s9, r9, _⟩ := hw 5 (by omega) (by kernel_rfl)
       have e9 : v 5 = .bool false := r9
       rw [e9] at s9
       replace s9 : a.tmps[16]? = some (.bool false) := s9
       refine wpOp_step rfl fun K' hK' => ?_
       rw [if_pos (wanted_on rfl rfl rfl s9 rfl)]
       unfold Oper.wp
       simp only [execOp]
       go_simp
       exact hK' _ _ ⟨_, rfl, Below.refl _ _, rfl⟩
      | 9, _ =>
       obtain ⟨s0, r0, _⟩ := hw 8 (by omega) (by kernel_rfl)
       have e0 : v 8 = .pointer (some ⟨b, k, none⟩) := r0
       rw [e0] at s0
       replace s0 : a.tmps[19]? = some (.pointer (some ⟨b, k, none⟩)) := s0
       obtain ⟨s9, r9, _⟩ := hw 5 (by omega) (by kernel_rfl)
       have e9 : v 5 = .bool false := r9
       rw [e9] at s9
       replace s9 : a.tmps[16]? = some (.bool false) := s9
       refine wpOp_step rfl fun K' hK' => ?_
       rw [if_pos (wanted_on rfl rfl rfl s9 rfl)]
       unfold Oper.wp
       simp only [execOp]
       go_simp
       exact hK' _ _ ⟨_, rfl, Below.refl _ _, rfl⟩
      | 10, _ =>
       obtain ⟨s0, r0, _⟩ := hw 9 (by omega) (by kernel_rfl)
       have e0 : v 9 = .pointer (some ⟨b, k + 10, none⟩) := r0
       rw [e0] at s0
       replace s0 : a.tmps[20]? = some (.pointer (some ⟨b, k + 10, none⟩)) := s0
       obtain ⟨s9, r9, _⟩ := hw 5 (by omega) (by kernel_rfl)
       have e9 : v 5 = .bool false := r9
       rw [e9] at s9
       replace s9 : a.tmps[16]? = some (.bool false) := s9
       have cc := (hb.cell (p := ⟨b, k + 10, none⟩) HLB.out).trans L10.out
       refine wpOp_step rfl fun K' hK' => ?_
       rw [if_pos (wanted_on rfl rfl rfl s9 rfl)]
       unfold Oper.wp
       simp only [execOp]
       go_simp
       exact hK' _ _ ⟨_, rfl, Below.refl _ _, rfl⟩
      | 11, _ =>
       obtain ⟨s0, r0, _⟩ := hw 10 (by omega) (by kernel_rfl)
       have e0 : v 10 = .slice A L c := r0
       rw [e0] at s0
       replace s0 : a.tmps[21]? = some (.slice A L c) := s0
       obtain ⟨s9, r9, _⟩ := hw 5 (by omega) (by kernel_rfl)
       have e9 : v 5 = .bool false := r9
       rw [e9] at s9
       replace s9 : a.tmps[16]? = some (.bool false) := s9
       refine gw_t rfl (wanted_on rfl rfl rfl s9 rfl) 104 21 _ _ rfl (fun v w => by go_simp) s0 ?_
       with_reducible refine (PC.out w9 hb).mono ?_
       rintro e w3 ⟨rfl, hb3⟩
       exact ⟨_, rfl, _, rfl, hb3, rfl⟩
      | 12, _ =>
       obtain ⟨s9, r9, _⟩ := hw 5 (by omega) (by kernel_rfl)
       have e9 : v 5 = .bool false := r9
       rw [e9] at s9
       replace s9 : a.tmps[16]? = some (.bool false) := s9
       refine wpOp_step rfl fun K' hK' => ?_
       rw [if_pos (wanted_on rfl rfl rfl s9 rfl)]
       unfold Oper.wp
       simp only [execOp]
       simp only [Instr.makeFunc]
       go_simp
       exact hK' _ _ ⟨_, rfl, Below.refl _ _, rfl⟩
      | k + 13, h => exact absurd h (by omega)
     case done =>
      intro a w9 v lo hi' hdef hsz hoth hb hj hap
      obtain ⟨_, hv5, _, _⟩ := hj 5 (by omega)
      obtain ⟨_, hv6, _, _⟩ := hj 6 (by omega)
      obtain ⟨_, hv11, _, _⟩ := hj 11 (by omega)
      obtain ⟨_, hv12, _, _⟩ := hj 12 (by omega)
      have ha := eq_puts hdef hsz hoth (fun i hi => (hj i hi).1)
      subst ha
      clear hj hoth hdef hsz hap
      change v 5 = _ at hv5
      change v 6 = _ at hv6
      change v 11 = _ at hv11
      change v 12 = _ at hv12
      simp only [puts, List.getD_cons_zero, List.getD_cons_succ, hv5, hv6, hv11, hv12]
      generalize v 0 = v0
      generalize v 1 = v1
      generalize v 2 = v2
      generalize v 3 = v3
      generalize v 4 = v4
      generalize v 7 = v7
      generalize v 8 = v8
      generalize v 9 = v9
      generalize v 10 = v10
      clear hv5 hv6 hv11 hv12
      simp only [Act.put, List.setIfInBounds_toArray, List.set_cons_zero, List.set_cons_succ]
      show wpList _ _ _ [_, _, _] _ _
      have RC2 := hI (RCC.out w9 hb)
      clear hb PC RCC
      go_wp2_with fail
      refine RC2.out.mono ?_
      rintro e w5 ⟨r, rfl, hQ⟩
      have HQ := hI hQ
      clear hQ RC2
      go_wp2_with fail
      gi_wp2_with fail
      go_ret
      refine ⟨r, rfl, ?_⟩
      rcases HQ.out with ⟨rfl, xs, h1, h2, h3⟩ | ⟨rfl, xs, h1, h2⟩
      · exact .inl ⟨rfl, x :: xs, by rw [HS1.out, List.map_cons, HXT.out, h1], by rw [List.append_cons]; exact h2, HK4.out.trans h3⟩
      · exact .inr ⟨rfl, x :: xs, by rw [HS1.out, List.map_cons, HXT.out]; exact (List.prefix_cons_inj t).2 h1, by rw [List.append_cons]; exact h2⟩
   · have ha0 : t.args = [] := by
      cases t with
      | var s => rfl
      | con o => rfl
      | app s l => exact absurd rfl hk3
     have HS2 : Hid (subsT t = [t]) := (show _ = _ by rw [HS1.out, ha0]; unfold subsTs; rfl)
     have hkn : (t.kd != 3) = true := by rw [bne_iff_ne]; exact hk3
     clear HV1 HAA HN1 HS1 ha0
     generalize t.kd = kd at *
     refine wp_region_grow (l := _) 13 (by kernel_rfl) (by kernel_rfl) (fun i => [11, 12, 13, 14, 15, 16, 17, 18, 19, 20, 21, 22, 23].getD i 0) (LR [LV (.pointer (some ⟨b, k, none⟩)), LV (.pointer (some ⟨b, k, none⟩)), LV (.pointer (some ⟨b, k, none⟩)), LV (.int .i64 kd), LV (.bool true), LV (.bool true), LV undef, LV undef, LV undef, LV undef, LV undef, LV undef, LV undef]) (LR_mono ⟨mLV _, mLV _, mLV _, mLV _, mLV _, mLV _, mLV _, mLV _, mLV _, mLV _, mLV _, mLV _, mLV _, trivial⟩) (by
      intro i j hi hj h
      exact inj_getD [11, 12, 13, 14, 15, 16, 17, 18, 19, 20, 21, 22, 23] (by decide) i j hi hj h) (by
      intro i hi
      exact lt_getD 26 [11, 12, 13, 14, 15, 16, 17, 18, 19, 20, 21, 22, 23] (by decide) i hi) ?step ?done
     case step =>
      intro ii hii a w9 v lo hi' hoth hb hw
      have sl3 : a.tmps[3]? = some (.pointer (some ⟨Bm, 0, none⟩)) := (hoth 3 (fun j hj => ne_getD 3 _ (by decide) j hj)).trans rfl
      have sl4 : a.tmps[4]? = some (.pointer (some ⟨Bt, 0, none⟩)) := (hoth 4 (fun j hj => ne_getD 4 _ (by decide) j hj)).trans rfl
      have sl5 : a.tmps[5]? = some (.pointer (some ⟨By, 0, none⟩)) := (hoth 5 (fun j hj => ne_getD 5 _ (by decide) j hj)).trans rfl
      match ii, hii with
      | 0, _ =>
       have cc := cell1 ((hb.block Bt (lt_row HT.out)).trans HT.out)
       refine wpOp_step rfl fun K' hK' => ?_
       rw [if_pos (wanted_plain rfl)]
       unfold Oper.wp
       simp only [execOp]
       go_simp
       exact hK' _ _ ⟨_, rfl, Below.refl _ _, rfl⟩
      | 1, _ =>
       obtain ⟨s0, r0, _⟩ := hw 0 (by omega) (by kernel_rfl)
       have e0 : v 0 = .pointer (some ⟨b, k, none⟩) := r0
       rw [e0] at s0
       replace s0 : a.tmps[11]? = some (.pointer (some ⟨b, k, none⟩)) := s0
       refine wpOp_step rfl fun K' hK' => ?_
       rw [if_pos (wanted_plain rfl)]
       unfold Oper.wp
       simp only [execOp]
       go_simp
       exact hK' _ _ ⟨_, rfl, Below.refl _ _, rfl⟩
      | 2, _ =>
       obtain ⟨s0, r0, _⟩ := hw 1 (by omega) (by kernel_rfl)
       have e0 : v 1 = .pointer (some ⟨b, k, none⟩) := r0
       rw [e0] at s0
       replace s0 : a.tmps[12]? = some (.pointer (some ⟨b, k, none⟩)) := s0
       refine wpOp_step rfl fun K' hK' => ?_
       rw [if_pos (wanted_plain rfl)]
       unfold Oper.wp
       simp only [execOp]
       go_simp
       exact hK' _ _ ⟨_, rfl, Below.refl _ _, rfl⟩
      | 3, _ =>
       obtain ⟨s0, r0, _⟩ := hw 2 (by omega) (by kernel_rfl)
       have e0 : v 2 = .pointer (some ⟨b, k, none⟩) := r0
       rw [e0] at s0
       replace s0 : a.tmps[13]? = some (.pointer (some ⟨b, k, none⟩)) := s0
       have cc := (hb.cell (p := ⟨b, k, none⟩) HLB.out).trans L0.out
       refine wpOp_step rfl fun K' hK' => ?_
       rw [if_pos (wanted_plain rfl)]
       unfold Oper.wp
       simp only [execOp]
       go_simp
       exact hK' _ _ ⟨_, rfl, Below.refl _ _, rfl⟩
      | 4, _ =>
       obtain ⟨s0, r0, _⟩ := hw 3 (by omega) (by kernel_rfl)
       have e0 : v 3 = .int .i64 kd := r0
       rw [e0] at s0
       replace s0 : a.tmps[14]? = some (.int .i64 kd) := s0
       refine wpOp_step rfl fun K' hK' => ?_
       rw [if_pos (wanted_plain rfl)]
       unfold Oper.wp
       simp only [execOp]
       go_simp
       exact hK' _ _ ⟨_, rfl, Below.refl _ _, rfl⟩
      | 5, _ =>
       obtain ⟨s0, r0, _⟩ := hw 4 (by omega) (by kernel_rfl)
       have e0 : v 4 = .bool true := r0
       rw [e0] at s0
       replace s0 : a.tmps[15]? = some (.bool true) := s0
       refine wpOp_step rfl fun K' hK' => ?_
       rw [if_pos (wanted_plain rfl)]
       unfold Oper.wp
       simp only [execOp]
       go_simp
       exact hK' _ _ ⟨_, rfl, Below.refl _ _, rfl⟩
      | 6, _ =>
       obtain ⟨s9, r9, _⟩ := hw 5 (by omega) (by kernel_rfl)
       have e9 : v 5 = .bool true := r9
       rw [e9] at s9
       replace s9 : a.tmps[16]? = some (.bool true) := s9
       exact gw_skip rfl (wanted_off rfl rfl rfl s9 rfl) ⟨_, rfl, Below.refl _ _, rfl⟩
      | 7, _ =>
       obtain ⟨s9, r9, _⟩ := hw 5 (by omega) (by kernel_rfl)
       have e9 : v 5 = .bool true := r9
       rw [e9] at s9
       replace s9 : a.tmps[16]? = some (.bool true) := s9
       exact gw_skip rfl (wanted_off rfl rfl rfl s9 rfl) ⟨_, rfl, Below.refl _ _, rfl⟩
      | 8, _ =>
       obtain ⟨s9, r9, _⟩ := hw 5 (by omega) (by kernel_rfl)
       have e9 : v 5 = .bool true := r9
       rw [e9] at s9
       replace s9 : a.tmps[16]? = some (.bool true) := s9
       exact gw_skip rfl (wanted_off rfl rfl rfl s9 rfl) ⟨_, rfl, Below.refl _ _, rfl⟩
      | 9, _ =>
       obtain ⟨s9, r9, _⟩ := hw 5 (by omega) (by kernel_rfl)
       have e9 : v 5 = .bool true := r9
       rw [e9] at s9
       replace s9 : a.tmps[16]? = some (.bool true) := s9
       exact gw_skip rfl (wanted_off rfl rfl rfl s9 rfl) ⟨_, rfl, Below.refl _ _, rfl⟩
      | 10, _ =>
       obtain ⟨s9, r9, _⟩ := hw 5 (by omega) (by kernel_rfl)
       have e9 : v 5 = .bool true := r9
       rw [e9] at s9
       replace s9 : a.tmps[16]? = some (.bool true) := s9
       exact gw_skip rfl (wanted_off rfl rfl rfl s9 rfl) ⟨_, rfl, Below.refl _ _, rfl⟩
      | 11, _ =>
       obtain ⟨s9, r9, _⟩ := hw 5 (by omega) (by kernel_rfl)
       have e9 : v 5 = .bool true := r9
       rw [e9] at s9
       replace s9 : a.tmps[16]? = some (.bool true) := s9
       exact gw_skip rfl (wanted_off rfl rfl rfl s9 rfl) ⟨_, rfl, Below.refl _ _, rfl⟩
      | 12, _ =>
       obtain ⟨s9, r9, _⟩ := hw 5 (by omega) (by kernel_rfl)
       have e9 : v 5 = .bool true := r9
       rw [e9] at s9
       replace s9 : a.tmps[16]? = some (.bool true) := s9
       exact gw_skip rfl (wanted_off rfl rfl rfl s9 rfl) ⟨_, rfl, Below.refl _ _, rfl⟩
      | k + 13, h => exact absurd h (by omega)
     case done =>
      intro a w9 v lo hi' hdef hsz hoth hb hj hap
      obtain ⟨_, hv5, _, _⟩ := hj 5 (by omega)
      have ha := eq_puts hdef hsz hoth (fun i hi => (hj i hi).1)
      subst ha
      clear hj hoth hdef hsz hap
      change v 5 = _ at hv5
      simp only [puts, List.getD_cons_zero, List.getD_cons_succ, hv5]
      generalize v 0 = v0
      generalize v 1 = v1
      generalize v 2 = v2
      generalize v 3 = v3
      generalize v 4 = v4
      generalize v 6 = v6
      generalize v 7 = v7
      generalize v 8 = v8
      generalize v 9 = v9
      generalize v 10 = v10
      generalize v 11 = v11
      generalize v 12 = v12
      clear hv5
      simp only [Act.put, List.setIfInBounds_toArray, List.set_cons_zero, List.set_cons_succ]
      show wpList _ _ _ [_, _, _] _ _
      have HB := hI hb
      clear hb
      go_wp2_with fail
      gi_wp2_with fail
      go_ret
      refine ⟨true, rfl, .inl ⟨rfl, [x], by rw [HS2.out, List.map_cons, HXT.out]; rfl, HC.out.jb _ _ _ HJ4.out HB.out, HK4.out.trans (KeepC.of_below HB.out)⟩⟩
 · gi_wp2_with fail
   go_ret
   exact ⟨false, rfl, .inr ⟨rfl, [x], by rw [HS1.out, List.map_cons, HXT.out]; exact ⟨subsTs t.args, rfl⟩, hx4⟩⟩
def V1Wq {w0 : World} {S : Nat → Prop} (B0 : Nat) (M : Nat → Prop) (J : List (Spotq w0 S) → World → Prop) (pre : List (Spotq w0 S)) (l : List Tm) (i : Nat) (W1 wr : World) : Prop := ∃ xs : List (Spotq w0 S), xs.map Spotq.tm ++ subsTs (l.drop i) = subsTs l ∧ J (pre ++ xs) wr ∧ KeepC B0 M W1 wr
theorem visit1q {w0 : World} {S M : Nat → Prop} {B0 l N : Nat} {J Jx : List (Spotq w0 S) → World → Prop} (C : ItCq w0 S M B0 l N J Jx) (t : Tm) (b k : Nat) (cs : List Value) (hP0 : TmP w0 S t b k cs) (hn : t.args.length ≤ 3000)
 (pre : List (Spotq w0 S)) (W : World) (Bt Bm By : Nat) (hk : KeepC B0 M w0 W) (hv : VBx W B0 l b k Bt Bm By) (hJ : J pre W) (hN : pre.length + (subsTs t.args).length ≤ N)
 (ih : ∀ x ∈ t.args, ∀ (b k : Nat) (cs : List Value) (pre : List (Spotq w0 S)) (W : World), TmP w0 S x b k cs → KeepC B0 M w0 W → J pre W → pre.length + (subsT x).length ≤ N → Calls Tryz.prog 102 #[.pointer none, .pointer (some ⟨b, k, none⟩), .func (.yield l) #[] #[]] W (RetVq B0 M J Jx pre (subsT x) W)) :
 Calls Tryz.prog 135 #[.pointer (some ⟨Bt, 0, none⟩), .pointer (some ⟨Bm, 0, none⟩), .pointer (some ⟨By, 0, none⟩)] W (RetVq B0 M J Jx pre (subsTs t.args) W) := by
 have hlb0 : b < B0 ∧ ¬ M b := C.hS b hP0.1.1
 obtain ⟨x0, x1, x2, x3, x4, x5, x6, A, c, _, _, ha, _, _, _, _, _, _, _, _, _, _, l10⟩ := hP0.cells
 have HL10 : Hid (∀ X, KeepC B0 M w0 X → X.cell? ⟨b, k + 10, none⟩ = some (.slice A t.args.length c)) := fun X hX => (World.cell?_of_block (a := ⟨b, k + 10, none⟩) (hX.old C.hB hlb0.1 hlb0.2)).trans l10
 have HLBB : Hid (∀ X, KeepC B0 M w0 X → b < X.heap.size) := fun X hX => Nat.lt_of_lt_of_le (Nat.lt_of_lt_of_le hlb0.1 C.hB) hX.size
 have HLC0 : Hid (t.args.length ≤ c) := ha.1
 have HAA := hI ha
 have HI : Hid (∀ i (hi : i < t.args.length), ∀ (b k : Nat) (cs : List Value) (pre : List (Spotq w0 S)) (W : World), TmP w0 S t.args[i] b k cs → KeepC B0 M w0 W → J pre W → pre.length + (subsT t.args[i]).length ≤ N → Calls Tryz.prog 102 #[.pointer none, .pointer (some ⟨b, k, none⟩), .func (.yield l) #[] #[]] W (RetVq B0 M J Jx pre (subsT t.args[i]) W)) := fun i hi => ih _ (List.getElem_mem hi)
 have HC := hI C
 have HK := hI hk
 have HV := hI hv
 have HN := hI hN
 have h0 : Hid (V1Wq B0 M J pre t.args 0 W W) := ⟨[], by rw [List.drop_zero]; rfl, by rw [List.append_nil]; exact hJ, KeepC.refl W⟩
 have HQ : Hid (∀ e w', RetVq B0 M J Jx pre (subsTs t.args) W e w' → RetVq B0 M J Jx pre (subsTs t.args) W e w') := fun _ _ h => h
 generalize t.args = ts at *
 obtain ⟨L, hL⟩ : ∃ L, ts.length = L := ⟨_, rfl⟩
 have cT := cell1 hv.t
 have c10 := HL10.out W hk
 have HL := hI hL
 rw [hL] at hn HLC0 c10 HL10
 have HLC := HLC0
 have hLc := HLC0.out
 clear ih C hP0 hk hv hJ hN ha l10 hL hlb0
 go_enter Tryz.func135, Tryz.ntmps135
 go_wp2_with fail
 go_loopw [10] (fun v wr => ∃ (i : Nat), i ≤ L ∧ v = .int .i64 (i : Int) ∧ Hid (V1Wq B0 M J pre ts i W wr)) (fun v _ => L - (intOf v).toNat)
 case atStart => exact ⟨0, Nat.zero_le _, rfl, h0⟩
 case round =>
  clear h0 cT c10
  obtain ⟨i, hiL, rfl, hE⟩ := hrel
  obtain ⟨wo, rfl⟩ : ∃ wo : World, wo = wr := ⟨_, rfl⟩
  obtain ⟨xs, hxs, hJx, hkx⟩ := hE.out
  have hk0 := HK.out.trans hkx
  by_cases hlt : i < L
  · have hil : i < ts.length := by rw [HL.out]; exact hlt
    obtain ⟨b1, o1, cs1, rfl, hP1⟩ := HAA.out.arg hil
    have HVo := hI (HV.out.keep HC.out.hM hkx)
    have HT := hI HVo.out.t
    have HM := hI HVo.out.m
    have HY := hI HVo.out.y
    have L10 := hI (HL10.out wo hk0)
    have HLB := hI (HLBB.out wo hk0)
    have hdr := subsTs_drop hil
    rw [hdr] at hxs
    have hNi : (pre ++ xs).length + (subsT ts[i]).length ≤ N := by
     have h1 := congrArg List.length hxs
     have h2 := HN.out
     simp only [List.length_append, List.length_map] at h1 ⊢
     omega
    have CALL : Hid (∀ X, Below wo.heap.size wo X → Calls Tryz.prog 102 #[.pointer none, .pointer (some ⟨b1, o1 + i * 11, none⟩), .func (.yield l) #[] #[]] X (RetVq B0 M J Jx (pre ++ xs) (subsT ts[i]) X)) := fun X hX =>
     HI.out i hil b1 _ cs1 (pre ++ xs) X hP1 (hk0.trans (KeepC.of_below hX)) (HC.out.jb _ _ _ hJx hX) hNi
    have HXS := hI hxs
    have HKX := hI hkx
    obtain ⟨u, hu⟩ : ∃ u, subsT ts[i] = u := ⟨_, rfl⟩
    rw [hu] at HXS CALL
    clear hE hxs hJx hkx hk0 hP1 hdr hNi hu HV
    go_wp2_with fail
    refine wp_region_grow (l := _) 8 (by kernel_rfl) (by kernel_rfl) (fun i => [13, 14, 15, 16, 17, 18, 19, 20].getD i 0) (LR [LV (.pointer none), LV (.pointer (some ⟨b, k, none⟩)), LV (.pointer (some ⟨b, k, none⟩)), LV (.pointer (some ⟨b, k + 10, none⟩)), LV (.slice (some ⟨b1, o1, none⟩) L c), LV (.int .i64 (i : Int)), LV (.pointer (some ⟨b1, o1 + i * 11, none⟩)), LV (.func (.yield l) #[] #[])]) (LR_mono ⟨mLV _, mLV _, mLV _, mLV _, mLV _, mLV _, mLV _, mLV _, trivial⟩) (by
     intro i j hi hj h
     exact inj_getD [13, 14, 15, 16, 17, 18, 19, 20] (by decide) i j hi hj h) (by
     intro i hi
     exact lt_getD 24 [13, 14, 15, 16, 17, 18, 19, 20] (by decide) i hi) ?step ?done
    case step =>
     intro ii hii a w9 v lo hi' hoth hb hw
     have sl0 : a.tmps[0]? = some (.pointer (some ⟨Bt, 0, none⟩)) := (hoth 0 (fun j hj => ne_getD 0 _ (by decide) j hj)).trans rfl
     have sl1 : a.tmps[1]? = some (.pointer (some ⟨Bm, 0, none⟩)) := (hoth 1 (fun j hj => ne_getD 1 _ (by decide) j hj)).trans rfl
     have sl2 : a.tmps[2]? = some (.pointer (some ⟨By, 0, none⟩)) := (hoth 2 (fun j hj => ne_getD 2 _ (by decide) j hj)).trans rfl
     have sl4 : a.tmps[4]? = some (.int .i64 (i : Int)) := (hoth 4 (fun j hj => ne_getD 4 _ (by decide) j hj)).trans rfl
     match ii, hii with
     | 0, _ =>
      have cc := cell1 ((hb.block Bm (lt_row HM.out)).trans HM.out)
      refine wpOp_step rfl fun K' hK' => ?_
      rw [if_pos (wanted_plain rfl)]
      unfold Oper.wp
      simp only [execOp]
      go_simp
      exact hK' _ _ ⟨_, rfl, Below.refl _ _, rfl⟩
     | 1, _ =>
      have cc := cell1 ((hb.block Bt (lt_row HT.out)).trans HT.out)
      refine wpOp_step rfl fun K' hK' => ?_
      rw [if_pos (wanted_plain rfl)]
      unfold Oper.wp
      simp only [execOp]
      go_simp
      exact hK' _ _ ⟨_, rfl, Below.refl _ _, rfl⟩
     | 2, _ =>
      obtain ⟨s0, r0, _⟩ := hw 1 (by omega) (by kernel_rfl)
      have e0 : v 1 = .pointer (some ⟨b, k, none⟩) := r0
      rw [e0] at s0
      replace s0 : a.tmps[14]? = some (.pointer (some ⟨b, k, none⟩)) := s0
      refine wpOp_step rfl fun K' hK' => ?_
      rw [if_pos (wanted_plain rfl)]
      unfold Oper.wp
      simp only [execOp]
      go_simp
      exact hK' _ _ ⟨_, rfl, Below.refl _ _, rfl⟩
     | 3, _ =>
      obtain ⟨s0, r0, _⟩ := hw 2 (by omega) (by kernel_rfl)
      have e0 : v 2 = .pointer (some ⟨b, k, none⟩) := r0
      rw [e0] at s0
      replace s0 : a.tmps[15]? = some (.pointer (some ⟨b, k, none⟩)) := s0
      refine wpOp_step rfl fun K' hK' => ?_
      rw [if_pos (wanted_plain rfl)]
      unfold Oper.wp
      simp only [execOp]
      go_simp
      exact hK' _ _ ⟨_, rfl, Below.refl _ _, rfl⟩
     | 4, _ =>
      obtain ⟨s0, r0, _⟩ := hw 3 (by omega) (by kernel_rfl)
      have e0 : v 3 = .pointer (some ⟨b, k + 10, none⟩) := r0
      rw [e0] at s0
      replace s0 : a.tmps[16]? = some (.pointer (some ⟨b, k + 10, none⟩)) := s0
      have cc := (hb.cell (p := ⟨b, k + 10, none⟩) HLB.out).trans L10.out
      refine wpOp_step rfl fun K' hK' => ?_
      rw [if_pos (wanted_plain rfl)]
      unfold Oper.wp
      simp only [execOp]
      go_simp
      exact hK' _ _ ⟨_, rfl, Below.refl _ _, rfl⟩
     | 5, _ =>
      exact gw_move rfl (wanted_plain rfl) 4 _ rfl sl4 ⟨_, rfl, Below.refl _ _, rfl⟩
     | 6, _ =>
      obtain ⟨s0, r0, _⟩ := hw 4 (by omega) (by kernel_rfl)
      have e0 : v 4 = .slice (some ⟨b1, o1, none⟩) L c := r0
      rw [e0] at s0
      replace s0 : a.tmps[17]? = some (.slice (some ⟨b1, o1, none⟩) L c) := s0
      obtain ⟨s1, r1, _⟩ := hw 5 (by omega) (by kernel_rfl)
      have e1 : v 5 = .int .i64 (i : Int) := r1
      rw [e1] at s1
      replace s1 : a.tmps[18]? = some (.int .i64 (i : Int)) := s1
      have hcL := HLC.out
      refine wpOp_step rfl fun K' hK' => ?_
      rw [if_pos (wanted_plain rfl)]
      unfold Oper.wp
      simp only [execOp]
      go_simp
      exact hK' _ _ ⟨_, rfl, Below.refl _ _, rfl⟩
     | 7, _ =>
      have cc := cell1 ((hb.block By (lt_row HY.out)).trans HY.out)
      refine wpOp_step rfl fun K' hK' => ?_
      rw [if_pos (wanted_plain rfl)]
      unfold Oper.wp
      simp only [execOp]
      go_simp
      exact hK' _ _ ⟨_, rfl, Below.refl _ _, rfl⟩
    case done =>
     intro a w9 v lo hi' hdef hsz hoth hb hj hap
     obtain ⟨_, hv0, _, _⟩ := hj 0 (by omega)
     obtain ⟨_, hv6, _, _⟩ := hj 6 (by omega)
     obtain ⟨_, hv7, _, _⟩ := hj 7 (by omega)
     have ha := eq_puts hdef hsz hoth (fun i hi => (hj i hi).1)
     subst ha
     clear hj hoth hdef hsz hap
     change v 0 = _ at hv0
     change v 6 = _ at hv6
     change v 7 = _ at hv7
     simp only [puts, List.getD_cons_zero, List.getD_cons_succ, hv0, hv6, hv7]
     generalize v 1 = v1
     generalize v 2 = v2
     generalize v 3 = v3
     generalize v 4 = v4
     generalize v 5 = v5
     clear hv0 hv6 hv7
     simp only [Act.put, List.setIfInBounds_toArray, List.set_cons_zero, List.set_cons_succ]
     show wpList _ _ _ [_, _] _ _
     have CALL2 := hI (CALL.out w9 hb)
     have HKB : Hid (KeepC B0 M wo w9) := KeepC.of_below hb
     clear hb CALL
     go_wp2_with fail
     refine CALL2.out.mono ?_
     rintro e w5 ⟨r, rfl, (⟨rfl, ys, h1, h2, h3⟩ | ⟨rfl, ys, h1, h2⟩)⟩
     · have HE : Hid (V1Wq B0 M J pre ts (i + 1) W w5) := ⟨xs ++ ys, by rw [List.map_append, h1, List.append_assoc]; exact HXS.out, by rw [← List.append_assoc]; exact h2, (HKX.out.trans HKB.out).trans h3⟩
       clear h1 h2 h3 CALL2
       go_wp2_with fail
       go_roundw
       case rel => exact ⟨i + 1, by omega, by go_num, HE⟩
       case measure => simp [intOf]; omega
     · have HE : Hid (RetVq B0 M J Jx pre (subsTs ts) W (.returned (.bool false)) w5) := ⟨false, rfl, .inr ⟨rfl, xs ++ ys, by rw [List.map_append, ← HXS.out]; exact (List.prefix_append_right_inj _).2 (h1.trans (List.prefix_append _ _)), by rw [← List.append_assoc]; exact h2⟩⟩
       clear h1 h2 CALL2
       go_wp2_with fail
       go_ret
       exact HE.out
  · have hiL2 : i = L := by omega
    have hn : ¬ (i : Int) < L := by omega
    have HE : Hid (RetVq B0 M J Jx pre (subsTs ts) W (.returned (.bool true)) wo) := ⟨true, rfl, .inl ⟨rfl, xs, by
     rw [hiL2, ← HL.out, List.drop_length] at hxs
     unfold subsTs at hxs
     rw [List.append_nil] at hxs
     rw [hxs]
     cases ts <;> rfl, hJx, hkx⟩⟩
    clear hE hiL2 hlt hxs hJx hkx hk0
    go_wp2
    go_ret
    exact HE.out
theorem visitTq {w0 : World} {S M : Nat → Prop} {B0 l N : Nat} {J Jx : List (Spotq w0 S) → World → Prop} (C : ItCq w0 S M B0 l N J Jx) : ∀ (t : Tm) (b k : Nat) (cs : List Value) (pre : List (Spotq w0 S)) (W : World), TmP w0 S t b k cs → (∀ u ∈ subsT t, NmOkq u) → t.nodes ≤ 3000 → KeepC B0 M w0 W → J pre W → pre.length + (subsT t).length ≤ N →
 Calls Tryz.prog 102 #[.pointer none, .pointer (some ⟨b, k, none⟩), .func (.yield l) #[] #[]] W (RetVq B0 M J Jx pre (subsT t) W) := by
 intro t
 induction t using Tm.indA with
 | h t ih =>
  intro b k cs pre W hP hsh hn hk hJ hN
  have h1 := t.nodes_args
  have h2 := Tm.nodesL_len t.args
  exact visitStepq C t b k cs hP (hsh t (subsT_self t)) hn pre W hk hJ hN fun _ W1 pre' Bt Bm By hk1 hv1 hJ1 hN1 => visit1q C t b k cs hP (by omega) pre' W1 Bt Bm By hk1 hv1 hJ1 hN1 fun x hx b k cs pre W hP hk hJ hN => ih x hx b k cs pre W hP (fun u hu => hsh u (subsT_arg hx hu)) (by have := Tm.nodes_mem hx; omega) hk hJ hN
end Go.Proofs.YtinjhnnpbejccaaGreatDoor
