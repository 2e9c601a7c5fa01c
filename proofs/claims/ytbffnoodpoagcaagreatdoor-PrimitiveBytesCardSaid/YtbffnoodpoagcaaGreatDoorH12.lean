/- The reference's Equal decides equality of objects. -/
import Derived.Test.YtbffnoodpoagcaaGreatDoorH11
namespace Go.Proofs.YtbffnoodpoagcaaGreatDoor
open Go Go.RowKit
set_option linter.unusedVariables false
theorem beq_BA (l m : List UInt8) : ((BA l).toList == (BA m).toList) = decide (l = m) := by
 rw [Lib.toList_data, Lib.toList_data]
 by_cases h : l = m
 · subst h; simp
 · rw [decide_eq_false h, beq_eq_false_iff_ne]
   intro e
   apply h
   unfold BA at e
   simpa using e

theorem equalO : ∀ (a b : Ob) (pa pb : Value) (w : World) (S : Nat → Prop), In S w → Pair w S a pa → Pair w S b pb →
 Calls Tryz.prog 12 #[vO a pa, vO b pb] w (EqPost w (decide (a = b))) := by
 intro a
 induction a with
 | num q =>
  intro b pa pb w S hS ha hb
  have e : pa = .slice none 0 0 := ha
  subst e
  cases b with
  | num q' =>
   have e : pb = .slice none 0 0 := hb
   subst e
   have h := eqFlat 1 (nt q) (dt q) ⟨#[]⟩ ⟨#[]⟩ ⟨#[]⟩ (nt q') (dt q') ⟨#[]⟩ ⟨#[]⟩ ⟨#[]⟩ w
   have hr : eqS (nt q) (dt q) ⟨#[]⟩ ⟨#[]⟩ ⟨#[]⟩ (nt q') (dt q') ⟨#[]⟩ ⟨#[]⟩ ⟨#[]⟩ = decide (Ob.num q = Ob.num q') := by
    unfold eqS
    rw [q_beq]
    simp
   rw [hr] at h
   exact h
  | str s => rw [decide_eq_false (by simp)]; exact eqKind 1 3 (by decide) _ _ _ _ _ _ _ _ _ _ _ _ w
  | sym p n => rw [decide_eq_false (by simp)]; exact eqKind 1 2 (by decide) _ _ _ _ _ _ _ _ _ _ _ _ w
  | cons x y => rw [decide_eq_false (by simp)]; exact eqKind 1 4 (by decide) _ _ _ _ _ _ _ _ _ _ _ _ w
 | str s =>
  intro b pa pb w S hS ha hb
  have e : pa = .slice none 0 0 := ha
  subst e
  cases b with
  | num q' => rw [decide_eq_false (by simp)]; exact eqKind 3 1 (by decide) _ _ _ _ _ _ _ _ _ _ _ _ w
  | str s' =>
   have e : pb = .slice none 0 0 := hb
   subst e
   have h := eqFlat 3 ⟨#[]⟩ ⟨#[]⟩ ⟨#[]⟩ ⟨#[]⟩ (BA s) ⟨#[]⟩ ⟨#[]⟩ ⟨#[]⟩ ⟨#[]⟩ (BA s') w
   have hr : eqS ⟨#[]⟩ ⟨#[]⟩ ⟨#[]⟩ ⟨#[]⟩ (BA s) ⟨#[]⟩ ⟨#[]⟩ ⟨#[]⟩ ⟨#[]⟩ (BA s') = decide (Ob.str s = Ob.str s') := by
    unfold eqS
    rw [beq_BA]
    simp
   rw [hr] at h
   exact h
  | sym p n => rw [decide_eq_false (by simp)]; exact eqKind 3 2 (by decide) _ _ _ _ _ _ _ _ _ _ _ _ w
  | cons x y => rw [decide_eq_false (by simp)]; exact eqKind 3 4 (by decide) _ _ _ _ _ _ _ _ _ _ _ _ w
 | sym p n =>
  intro b pa pb w S hS ha hb
  have e : pa = .slice none 0 0 := ha
  subst e
  cases b with
  | num q' => rw [decide_eq_false (by simp)]; exact eqKind 2 1 (by decide) _ _ _ _ _ _ _ _ _ _ _ _ w
  | str s' => rw [decide_eq_false (by simp)]; exact eqKind 2 3 (by decide) _ _ _ _ _ _ _ _ _ _ _ _ w
  | sym p' n' =>
   have e : pb = .slice none 0 0 := hb
   subst e
   have h := eqFlat 2 ⟨#[]⟩ ⟨#[]⟩ (BA p) (BA n) ⟨#[]⟩ ⟨#[]⟩ ⟨#[]⟩ (BA p') (BA n') ⟨#[]⟩ w
   have hr : eqS ⟨#[]⟩ ⟨#[]⟩ (BA p) (BA n) ⟨#[]⟩ ⟨#[]⟩ ⟨#[]⟩ (BA p') (BA n') ⟨#[]⟩ = decide (Ob.sym p n = Ob.sym p' n') := by
    unfold eqS
    rw [beq_BA, beq_BA]
    simp
   rw [hr] at h
   exact h
  | cons x y => rw [decide_eq_false (by simp)]; exact eqKind 2 4 (by decide) _ _ _ _ _ _ _ _ _ _ _ _ w
 | cons a d iha ihd =>
  intro b pa pb w S hS ha hb
  cases b with
  | num q' => rw [decide_eq_false (by simp)]; exact eqKind 4 1 (by decide) _ _ _ _ _ _ _ _ _ _ _ _ w
  | str s' => rw [decide_eq_false (by simp)]; exact eqKind 4 3 (by decide) _ _ _ _ _ _ _ _ _ _ _ _ w
  | sym p' n' => rw [decide_eq_false (by simp)]; exact eqKind 4 2 (by decide) _ _ _ _ _ _ _ _ _ _ _ _ w
  | cons a' d' =>
   obtain ⟨g, o, c, qa, qd, rfl, hc, hg, hx, h1, h2⟩ := ha
   obtain ⟨g', o', c', qa', qd', rfl, hc', hg', hx', h1', h2'⟩ := hb
   have k1 := fun w' (hw : Below w.heap.size w w') => iha a' qa qa' w' S (hS.later hw.size) (h1.below hS hw) (h1'.below hS hw)
   have k2 := fun w' (hw : Below w.heap.size w w') => ihd d' qd qd' w' S (hS.later hw.size) (h2.below hS hw) (h2'.below hS hw)
   have hr : decide (Ob.cons a d = Ob.cons a' d') = (decide (a = a') && decide (d = d')) := by
    rw [← Bool.decide_and]
    simp
   rw [hr]
   unfold vO at k1 k2
   obtain ⟨x0, x1, x2, x3, x4, x5, ea⟩ := cells7 a qa
   obtain ⟨y0, y1, y2, y3, y4, y5, ed⟩ := cells7 d qd
   obtain ⟨z0, z1, z2, z3, z4, z5, ea'⟩ := cells7 a' qa'
   obtain ⟨t0, t1, t2, t3, t4, t5, ed'⟩ := cells7 d' qd'
   rw [ea, ed] at hx
   rw [ea', ed'] at hx'
   rw [ea, ea'] at k1
   rw [ed, ed'] at k2
   exact equalCC g o c g' o' c' w x0 x1 x2 x3 x4 x5 qa y0 y1 y2 y3 y4 y5 qd z0 z1 z2 z3 z4 z5 qa' t0 t1 t2 t3 t4 t5 qd' _ _ (hS g hg.1) (hS g' hg'.1) hc hc'
    (fun j u h => hx j u (by simpa using h)) (fun j u h => hx' j u (by simpa using h)) k1 k2
theorem tmod_emod (n m : Int) (hm : 0 < m) : (if n.tmod m < 0 then n.tmod m + m else n.tmod m) = n % m := by
 have h := Int.emod_eq_tmod (a := n) (b := m)
 have h1 := Int.emod_nonneg n (show m ≠ 0 by omega)
 have h2 := Int.emod_lt_of_pos n hm
 rcases Int.lt_or_le n 0 with hn | hn
 · have h3 : n.tmod m = -((-n) % m) := by
    rw [← Int.tmod_eq_emod_of_nonneg (by omega), Int.neg_tmod, Int.neg_neg]
   have h4 := Int.emod_nonneg (-n) (show m ≠ 0 by omega)
   have h5 := Int.emod_lt_of_pos (-n) hm
   have h6 : (-n) % m = (if n % m = 0 then 0 else m - n % m) := by
    rw [Int.neg_emod]
    split
    · rename_i g1; rw [if_pos (Int.emod_eq_zero_of_dvd g1)]
    · rename_i g1; rw [if_neg (fun g2 => g1 (Int.dvd_of_emod_eq_zero g2))]; omega
   split at h6 <;> split <;> omega
 · rw [Int.tmod_eq_emod_of_nonneg hn]
   split <;> omega

set_option maxHeartbeats 1000000 in
theorem modO (n m : Int) (w : World) (hn : -9223372036854775808 ≤ n) (hn' : n ≤ 9223372036854775807) (hm : 0 < m) (hm' : m ≤ 100000) :
 Calls Tryz.prog 19 #[.int .i64 n, .int .i64 m] w fun e w' => e = .returned (.int .i64 (n % m)) ∧ w = w' := by
 have h0 := Lib.hid (tmod_emod n m hm)
 have b1 := Int.tmod_lt_of_pos n hm
 have b2 := Int.lt_tmod_of_pos n hm
 go_enter Tryz.func19, Tryz.ntmps19
 go_wp2_with fail
 all_goals go_ret
 all_goals refine ⟨ret_int ?_, rfl⟩
 · rename_i hq
   have := h0.out
   rw [if_pos hq] at this
   exact this
 · rename_i hq
   have := h0.out
   rw [if_neg (by omega)] at this
   exact this

inductive Rw where
 | mk (k n : Int) (s : ByteArray) (l : List Rw)

def I64 (n : Int) : Prop := -9223372036854775808 ≤ n ∧ n ≤ 9223372036854775807

mutual
def RawAt (w : World) (S : Nat → Prop) : Rw → List Value → Prop
 | .mk k n s l, cs => ∃ A c, cs = [.int .i64 k, .int .i64 n, .string s, .slice A l.length c] ∧ I64 k ∧ I64 n ∧ l.length ≤ c ∧ c ≤ maxLen ∧
  (0 < l.length → ∃ b o, A = some ⟨b, o, none⟩ ∧ S b ∧ RawsAt w S b o l)
def RawsAt (w : World) (S : Nat → Prop) (b o : Nat) : List Rw → Prop
 | [] => True
 | r :: rs => (∃ cs, RawAt w S r cs ∧ ∀ j u, cs[j]? = some u → w.cell? ⟨b, o + j, none⟩ = some u) ∧ RawsAt w S b (o + 4) rs
end

mutual
theorem RawAt.keep {w w' : World} {S : Nat → Prop} (hk : ∀ p : Addr, S p.block → w'.cell? p = w.cell? p) : ∀ (r : Rw) (cs : List Value), RawAt w S r cs → RawAt w' S r cs
 | .mk k n s l, cs, h => by
  unfold RawAt at h ⊢
  obtain ⟨A, c, h1, h2, h3, h4, h5, h6⟩ := h
  refine ⟨A, c, h1, h2, h3, h4, h5, fun hl => ?_⟩
  obtain ⟨b, o, e, hb, hr⟩ := h6 hl
  exact ⟨b, o, e, hb, RawsAt.keep hk b o hb l hr⟩
theorem RawsAt.keep {w w' : World} {S : Nat → Prop} (hk : ∀ p : Addr, S p.block → w'.cell? p = w.cell? p) (b o : Nat) (hb : S b) : ∀ l : List Rw, RawsAt w S b o l → RawsAt w' S b o l
 | [], _ => by unfold RawsAt; trivial
 | r :: rs, h => by
  unfold RawsAt at h ⊢
  obtain ⟨⟨cs, h1, h2⟩, h3⟩ := h
  exact ⟨⟨cs, RawAt.keep hk r cs h1, fun j u hj => (hk ⟨b, o + j, none⟩ hb).trans (h2 j u hj)⟩, RawsAt.keep hk b (o + 4) hb rs h3⟩
end
theorem RawAt.below {w w' : World} {S : Nat → Prop} {B : Nat} {r : Rw} {cs : List Value} (h : RawAt w S r cs) (hS : ∀ b, S b → b < B) (hb : Below B w w') : RawAt w' S r cs := h.keep fun q hq => hb.cell (hS q.block hq)
mutual
theorem Rw.ind {P : Rw → Prop} (h : ∀ k n s l, (∀ r ∈ l, P r) → P (.mk k n s l)) : ∀ r, P r
 | .mk k n s l => h k n s l (Rw.inds h l)
theorem Rw.inds {P : Rw → Prop} (h : ∀ k n s l, (∀ r ∈ l, P r) → P (.mk k n s l)) : ∀ l : List Rw, ∀ r ∈ l, P r
 | [] => fun r hr => by simp at hr
 | x :: xs => fun r hr => by
  rcases List.mem_cons.1 hr with e | e
  · rw [e]; exact Rw.ind h x
  · exact Rw.inds h xs r e
end

def RetI (w : World) (n : Int) (e : Ending) (w' : World) : Prop := e = .returned (.int .i64 n) ∧ Below w.heap.size w w'

end Go.Proofs.YtbffnoodpoagcaaGreatDoor
